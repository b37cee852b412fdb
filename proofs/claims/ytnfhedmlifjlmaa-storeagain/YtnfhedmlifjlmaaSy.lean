/-
  What each function of package store answers, and what its memory holds afterwards: one contract a function; of the memory that was there only the store's own blocks have turned.
-/
import Derived.Test.YtnfhedmlifjlmaaChecked
import Derived.Test.YtnfhedmlifjlmaaSi
import Derived.Test.YtnfhedmlifjlmaaSj
import Derived.Test.YtnfhedmlifjlmaaSq
import Derived.Test.YtnfhedmlifjlmaaSr
import Derived.Test.YtnfhedmlifjlmaaStj
import Derived.RangeFuncNested
import Derived.RangeFuncBound
import Derived.RangeFuncCalls
import Derived.RangeFuncLeaves
import Derived.Shelf.Abstract
import Derived.Shelf.RegionOpen
import Derived.OwnWalkIn
import Derived.TacticsInMore
import Derived.LoopNIn
import Derived.LoopIn
import Derived.Maps.OwnIn
import Derived.Sort.LoopGhostIn
import Derived.BigRegionIn
import Derived.Stop.RegionWithIn
import Derived.Below
import Derived.BigQuiet
import Derived.OwnWalk
import Derived.Laws.AppendOwn
import Derived.Laws.AppendOwnNone
import Derived.WalkKit
import Derived.WalkLawsBesides
import Derived.WalkSpells
import Derived.ProofKit
import Derived.OpenShut
import Derived.Deep.RegionHeld3
import Derived.Deep.LoopGhost
import Derived.Laws.StructEq
import Derived.Lib.Builder
import Derived.Deep.DeepCutAuto
import Derived.Lib.SliceRun
import Derived.Laws.MakeOwn
namespace Go.Proofs.Ytnfhedmlifjlmaa
open Go.ChangeShapes Go.WideShapes Go.ChangeAt Go.RowKit Go.Lib
set_option linter.unusedVariables false
set_option linter.unusedSimpArgs false
set_option maxRecDepth 100000
set_option maxHeartbeats 4000000


theorem set_dI {m : Sm} {s : Ss} {w : World} (h : Sto w m s) (ho : Okk s) {p : Nat} (hp : m.p = p) {a b : Nat} {x y : Int} (hx : (a : Int) = x) (hy : (b : Int) = y) (ha : a < 4294967296) (hb : b < 4294967296) (hn : Named s a b) (v : Int) : Calls Try.prog 23 #[.pointer (some ⟨p, 0, none⟩), .agg #[.int .u32 x, .int .u32 y], .int .i64 v] w fun e w' => e = .returned (.int .i64 0) ∧ Sto w' m { s with T := s.T.set a (.int .i64 v) } ∧ Fr m.F m.F w w' := by
  subst hp hx hy
  refine (set_I m s w h ho a b ha hb v).mono ?_
  rintro e w' ⟨⟨_, rfl, hS⟩ | ⟨hn', _⟩, hf⟩
  · exact ⟨rfl, hS, hf⟩
  · exact absurd hn hn'
theorem Okk.setT {s : Ss} (h : Okk s) (a : Nat) (v : Value) : Okk { s with T := s.T.set a v } := ⟨h.m1, h.m2, h.um, h.ll, by simpa using h.tl, h.uo, h.nu, h.nf, h.lc⟩

theorem run_eql_fn (w : World) (f : Fn) (x y : Array Value) : (binOp .eql 42 (.func f x y) .nilFunc).run Try.prog w = .ok (.bool false) w := by
  have h : ∀ d : Nat, (Op.equalIn (d + 1) 42 (.func f x y) .nilFunc).run Try.prog w = .ok false w := fun d => by
    simp [Op.equalIn, run_underlying Try.underlying42]
  simp only [binOp]
  simp [Op.equal, Op.maxDepth, h 9999]

theorem fr_frozen {W : World} {b i : Nat} (h : W.heap.size ≤ b) : W.frozen? ⟨b, i, none⟩ = false := by
  simp [World.frozen?, h]
theorem hRow_two (a b : Nat) : ∀ u ∈ hRow [(a, b)], u.oneCell' = true := by
  intro u hu
  simp [hRow] at hu
  rcases hu with rfl | rfl <;> rfl
theorem mk_rws (W : World) (cs : List Value) (t : TypeId) : Rw (W.alloc (.cells cs.toArray t)) W.heap.size 0 cs := by
  intro j u hj
  rw [Nat.zero_add, World.cell?_alloc_new, List.getElem?_toArray]
  exact hj
attribute [local go_sem] Oper.semAt_some
theorem ahead17 (w : World) : Calls Try.prog 8 #[] w fun e w' => e = .returned (.bool true) ∧ Below w.heap.size w w' := by
  have hnew := new_dI 4 (by decide) (by decide) w (x := 4) rfl
  refine callsIn_wide (n := 9).1 ?_
  refine callsIn_of_wp_marks Try.func8 rfl trivial ?_ rfl
  simp only [Try.ntmps8, List.size_toArray, List.length_cons, List.length_nil, Nat.reduceAdd, Nat.reduceSub, Array.replicate_succ, Array.replicate_zero, List.push_toArray, List.append_toArray, List.nil_append, List.cons_append]
  gi_wp2
  refine ⟨trivial, (callsIn_wide.2 hnew).mono ?_⟩
  rintro e W0 ⟨p, rfl, hp, hS0, hb⟩
  have hF0 := hide (fr_new hb hp)
  have HP0 : Hid ((⟨p, none, 0, none, 0, none, 0⟩ : Sm).p = p) := rfl
  replace hS0 := hide hS0
  have ok0 := hide (new_okI (most := 4) (by decide) (by decide))
  obtain ⟨m0, hm0⟩ : ∃ m : Sm, m = ⟨p, none, 0, none, 0, none, 0⟩ := ⟨_, rfl⟩
  obtain ⟨s0, hs0⟩ : ∃ s : Ss, s = ⟨4, 0, 0, [], [], []⟩ := ⟨_, rfl⟩
  rw [← hm0] at hF0 HP0 hS0
  rw [← hs0] at hS0 ok0
  have HS0 := hide hs0
  clear hm0 hnew hb hp hs0
  have hk1 : Hid (NextIs s0 0) := next_of (by rw [HS0.out]; decide)
  have hc1 := put_dI hS0.out ok0.out 7 HP0.out hk1.out (by rw [HS0.out]; decide) (a := 0) (b := 1) rfl (by rw [HS0.out]; decide)
  gi_wp2
  refine ⟨trivial, (callsIn_wide.2 hc1).mono ?_⟩
  rintro e V1 ⟨rfl, m1, HP1, hS1, hf1⟩
  have hF1 := hide (hF0.out.trans hf1)
  have ok1 := hide (ok0.out.put hk1.out (by rw [HS0.out]; decide) (.int .i64 7))
  obtain ⟨s1, hs1⟩ : ∃ s : Ss, s = putS s0 0 (.int .i64 7) := ⟨_, rfl⟩
  rw [← hs1] at hS1 ok1
  have HS1 : Hid (s1 = ⟨4, 1, 0, [1], [true], [(.int .i64 7)]⟩) := by rw [hs1, HS0.out]; rfl
  replace HP1 := hide HP1
  gi_wp2
  have bb1 := st_bel (W := V1) #[.int .u32 0, .int .u32 1] 29
  have ha0 : (V1.alloc (.cells #[.int .u32 0, .int .u32 1] 29)).cell? ⟨V1.heap.size, 0, none⟩ = some (.int .u32 0) := by rw [World.cell?_alloc_new]; rfl
  have ha1 : (V1.alloc (.cells #[.int .u32 0, .int .u32 1] 29)).cell? ⟨V1.heap.size, 1, none⟩ = some (.int .u32 1) := by rw [World.cell?_alloc_new]; rfl
  have hn_ha : V1.heap.size ∉ m1.F := fun hm => Nat.lt_irrefl _ (hS1.sz _ hm)
  replace hS1 := hide (hS1.bel bb1)
  replace hF1 := hide (hF1.out.trans (Fr.of_bel bb1))
  obtain ⟨haq, hq1⟩ : ∃ q, q = V1.heap.size := ⟨_, rfl⟩
  obtain ⟨W1, hW1⟩ : ∃ x, x = V1.alloc (.cells #[.int .u32 0, .int .u32 1] 29) := ⟨_, rfl⟩
  rw [← hq1, ← hW1] at ha0 ha1
  rw [← hq1] at hn_ha
  rw [← hW1] at hS1 hF1
  rw [← hq1, ← hW1]
  clear hq1 hW1 bb1 hf1 hs1 hS0 hF0 hc1
  have hk2 : Hid (NextIs s1 1) := next_of (by rw [HS1.out]; decide)
  have hc2 := put_dI hS1.out ok1.out 8 HP1.out hk2.out (by rw [HS1.out]; decide) (a := 1) (b := 1) rfl (by rw [HS1.out]; decide)
  
  refine ⟨trivial, (callsIn_wide.2 hc2).mono ?_⟩
  rintro e V2 ⟨rfl, m2, HP2, hS2, hf2⟩
  have hF2 := hide (hF1.out.trans hf2)
  have ok2 := hide (ok1.out.put hk2.out (by rw [HS1.out]; decide) (.int .i64 8))
  obtain ⟨s2, hs2⟩ : ∃ s : Ss, s = putS s1 1 (.int .i64 8) := ⟨_, rfl⟩
  rw [← hs2] at hS2 ok2
  have HS2 : Hid (s2 = ⟨4, 2, 1, [1, 1], [true, true], [(.int .i64 7), (.int .i64 8)]⟩) := by rw [hs2, HS1.out]; rfl
  replace HP2 := hide HP2
  have hz_ha := hf2.away (World.block_lt_of_cell? _ _ ha0) hn_ha
  replace ha0 := hf2.cell hn_ha ha0
  replace ha1 := hf2.cell hn_ha ha1
  replace hn_ha := hz_ha
  gi_wp2
  have bb2 := st_bel (W := V2) #[.int .u32 1, .int .u32 1] 29
  have hb0 : (V2.alloc (.cells #[.int .u32 1, .int .u32 1] 29)).cell? ⟨V2.heap.size, 0, none⟩ = some (.int .u32 1) := by rw [World.cell?_alloc_new]; rfl
  have hb1 : (V2.alloc (.cells #[.int .u32 1, .int .u32 1] 29)).cell? ⟨V2.heap.size, 1, none⟩ = some (.int .u32 1) := by rw [World.cell?_alloc_new]; rfl
  have hn_hb : V2.heap.size ∉ m2.F := fun hm => Nat.lt_irrefl _ (hS2.sz _ hm)
  replace hS2 := hide (hS2.bel bb2)
  replace hF2 := hide (hF2.out.trans (Fr.of_bel bb2))
  replace ha0 := keep bb2 ha0
  replace ha1 := keep bb2 ha1
  obtain ⟨hbq, hq2⟩ : ∃ q, q = V2.heap.size := ⟨_, rfl⟩
  obtain ⟨W2, hW2⟩ : ∃ x, x = V2.alloc (.cells #[.int .u32 1, .int .u32 1] 29) := ⟨_, rfl⟩
  rw [← hq2, ← hW2] at hb0 hb1
  rw [← hq2] at hn_hb
  rw [← hW2] at hS2 hF2 ha0 ha1
  rw [← hq2, ← hW2]
  clear hq2 hW2 bb2 hf2 hs2 hS1 hF1 hc2
  have hal := all_I m2 s2 W2 hS2.out ok2.out (by rw [HS2.out]; intro v hv; simp at hv; rcases hv with rfl | rfl; exact ⟨7, rfl⟩; exact ⟨8, rfl⟩)
  rw [HP2.out] at hal
  refine ⟨trivial, (callsIn_wide.2 hal).mono ?_⟩
  rintro e VA ⟨c, n, sh, ch, sx, cx, rfl, hcs, xc, xd, hn, hlt, hP⟩
  have hh : heH s2 s2.U.length = [(0, 1), (1, 1)] := by rw [HS2.out]; rfl
  have htt : heT s2 s2.U.length = [.int .i64 7, .int .i64 8] := by rw [HS2.out]; rfl
  rw [hh] at hn hP
  rw [htt] at hP
  have hn2 : n = 2 := hn.symm
  subst hn2
  obtain ⟨gh, hgh, _, _, hRh, _⟩ := hP.rh.at (by decide)
  obtain ⟨gx, hgx, _, _, hRx, _⟩ := hP.rx.at (by decide)
  subst hgh hgx
  have hRx : Rw VA gx 0 (xRow [7, 8]) := hRx
  have hn_h : gh ∉ m2.F := (hP.d1 gh (by simp [ob])).1
  have hn_x : gx ∉ m2.F := hP.d2 gx (by simp [ob])
  have hn_c : c ∉ m2.F := fun hm => by have := hS2.out.sz c hm; omega
  have hn_d : c + 1 ∉ m2.F := fun hm => by have := hS2.out.sz (c + 1) hm; omega
  have hfA : Fr m2.F m2.F W2 VA := hP.fr.part (fun k hk => by cases hk) (fun k hk => .inl hk)
  replace ha0 := hfA.cell hn_ha ha0
  replace ha1 := hfA.cell hn_ha ha1
  replace hb0 := hfA.cell hn_hb hb0
  replace hb1 := hfA.cell hn_hb hb1
  replace hF2 := hide (hF2.out.trans hfA)
  have hS2A := hide hP.st
  clear hS2
  have hS2 := hS2A
  have hDist := hide (And.intro (hlt gh (.inl (by simp [ob]))) (And.intro (hlt gx (.inr (by simp [ob]))) (show gh ≠ gx from fun e => (hP.d1 gh (by simp [ob])).2 (by rw [e]; simp [ob]))))
  clear hS2A hP hfA hn hh htt hlt hcs hal
  have hnm3 : Hid (Named s2 0 1) := (show Named s2 0 1 by rw [HS2.out]; decide)
  have hc3 := set_dI hS2.out ok2.out HP2.out (a := 0) (b := 1) (x := 0) (y := 1) rfl rfl (by decide) (by decide) hnm3.out 70
  gi_wp2
  refine ⟨trivial, (callsIn_wide.2 hc3).mono ?_⟩
  rintro e V3 ⟨rfl, hS3, hf3⟩
  have HP3 := HP2.out
  obtain ⟨m3, hm3⟩ : ∃ m, m = m2 := ⟨_, rfl⟩
  rw [← hm3] at HP3 hS3
  have hf3 : Fr m2.F m3.F VA V3 := by rw [hm3]; exact hf3
  clear hm3
  have zc := hf3.away (World.block_lt_of_cell? _ _ xc) hn_c
  have zd := hf3.away (World.block_lt_of_cell? _ _ xd) hn_d
  have zh := hf3.away (World.block_lt_of_cell? _ _ (hRh 0 _ rfl)) hn_h
  have zx := hf3.away (World.block_lt_of_cell? _ _ (hRx 0 _ rfl)) hn_x
  replace xc := hf3.cell hn_c xc
  replace xd := hf3.cell hn_d xd
  replace hRh : Rw V3 gh 0 (hRow [(0, 1), (1, 1)]) := fun j u hj => hf3.cell hn_h (hRh j u hj)
  replace hRx : Rw V3 gx 0 (xRow [7, 8]) := fun j u hj => hf3.cell hn_x (hRx j u hj)
  replace hn_c := zc
  replace hn_d := zd
  replace hn_h := zh
  replace hn_x := zx
  have hF3 := hide (hF2.out.trans hf3)
  have ok3 := hide (ok2.out.setT 0 (.int .i64 70))
  obtain ⟨s3, hs3⟩ : ∃ s : Ss, s = { s2 with T := s2.T.set 0 (.int .i64 70) } := ⟨_, rfl⟩
  rw [← hs3] at hS3 ok3
  have HS3 : Hid (s3 = ⟨4, 2, 1, [1, 1], [true, true], [(.int .i64 70), (.int .i64 8)]⟩) := by rw [hs3, HS2.out]; rfl
  replace HP3 := hide HP3
  have hz_ha := hf3.away (World.block_lt_of_cell? _ _ ha0) hn_ha
  replace ha0 := hf3.cell hn_ha ha0
  replace ha1 := hf3.cell hn_ha ha1
  replace hn_ha := hz_ha
  have hz_hb := hf3.away (World.block_lt_of_cell? _ _ hb0) hn_hb
  replace hb0 := hf3.cell hn_hb hb0
  replace hb1 := hf3.cell hn_hb hb1
  replace hn_hb := hz_hb
  replace hS3 := hide hS3
  clear hf3 hs3 hS2 hF2 hc3
  have hnm4 : Hid (Named s3 1 1) := (show Named s3 1 1 by rw [HS3.out]; decide)
  have hc4 := take_dI hS3.out ok3.out HP3.out (a := 1) (b := 1) (x := 1) (y := 1) rfl rfl (by decide) (by decide) hnm4.out (v := .int .i64 8) (by rw [HS3.out]; rfl)
  gi_wp2
  refine ⟨trivial, (callsIn_wide.2 hc4).mono ?_⟩
  rintro e V4 ⟨rfl, hS4, hf4⟩
  have HP4 := HP3.out
  obtain ⟨m4, hm4⟩ : ∃ m, m = m3 := ⟨_, rfl⟩
  rw [← hm4] at HP4 hS4
  have hf4 : Fr m3.F m4.F V3 V4 := by rw [hm4]; exact hf4
  clear hm4
  have zc := hf4.away (World.block_lt_of_cell? _ _ xc) hn_c
  have zd := hf4.away (World.block_lt_of_cell? _ _ xd) hn_d
  have zh := hf4.away (World.block_lt_of_cell? _ _ (hRh 0 _ rfl)) hn_h
  have zx := hf4.away (World.block_lt_of_cell? _ _ (hRx 0 _ rfl)) hn_x
  replace xc := hf4.cell hn_c xc
  replace xd := hf4.cell hn_d xd
  replace hRh : Rw V4 gh 0 (hRow [(0, 1), (1, 1)]) := fun j u hj => hf4.cell hn_h (hRh j u hj)
  replace hRx : Rw V4 gx 0 (xRow [7, 8]) := fun j u hj => hf4.cell hn_x (hRx j u hj)
  replace hn_c := zc
  replace hn_d := zd
  replace hn_h := zh
  replace hn_x := zx
  have hF4 := hide (hF3.out.trans hf4)
  have ok4 := hide (ok3.out.take hnm4.out.1 (.int .i64 0))
  obtain ⟨s4, hs4⟩ : ∃ s : Ss, s = takeS s3 1 (.int .i64 0) := ⟨_, rfl⟩
  rw [← hs4] at hS4 ok4
  have HS4 : Hid (s4 = ⟨4, 1, 1, [1, 1], [true, false], [(.int .i64 70), (.int .i64 0)]⟩) := by rw [hs4, HS3.out]; rfl
  replace HP4 := hide HP4
  have hz_ha := hf4.away (World.block_lt_of_cell? _ _ ha0) hn_ha
  replace ha0 := hf4.cell hn_ha ha0
  replace ha1 := hf4.cell hn_ha ha1
  replace hn_ha := hz_ha
  have hz_hb := hf4.away (World.block_lt_of_cell? _ _ hb0) hn_hb
  replace hb0 := hf4.cell hn_hb hb0
  replace hb1 := hf4.cell hn_hb hb1
  replace hn_hb := hz_hb
  replace hS4 := hide hS4
  clear hf4 hs4 hS3 hF3 hc4
  have hk5 : Hid (NextIs s4 1) := next_of (by rw [HS4.out]; decide)
  have hc5 := put_dI hS4.out ok4.out 9 HP4.out hk5.out (by rw [HS4.out]; decide) (a := 1) (b := 2) rfl (by rw [HS4.out]; decide)
  gi_wp2
  refine ⟨trivial, (callsIn_wide.2 hc5).mono ?_⟩
  rintro e V5 ⟨rfl, m5, HP5, hS5, hf5⟩
  have zc := hf5.away (World.block_lt_of_cell? _ _ xc) hn_c
  have zd := hf5.away (World.block_lt_of_cell? _ _ xd) hn_d
  have zh := hf5.away (World.block_lt_of_cell? _ _ (hRh 0 _ rfl)) hn_h
  have zx := hf5.away (World.block_lt_of_cell? _ _ (hRx 0 _ rfl)) hn_x
  replace xc := hf5.cell hn_c xc
  replace xd := hf5.cell hn_d xd
  replace hRh : Rw V5 gh 0 (hRow [(0, 1), (1, 1)]) := fun j u hj => hf5.cell hn_h (hRh j u hj)
  replace hRx : Rw V5 gx 0 (xRow [7, 8]) := fun j u hj => hf5.cell hn_x (hRx j u hj)
  replace hn_c := zc
  replace hn_d := zd
  replace hn_h := zh
  replace hn_x := zx
  have hF5 := hide (hF4.out.trans hf5)
  have ok5 := hide (ok4.out.put hk5.out (by rw [HS4.out]; decide) (.int .i64 9))
  obtain ⟨s5, hs5⟩ : ∃ s : Ss, s = putS s4 1 (.int .i64 9) := ⟨_, rfl⟩
  rw [← hs5] at hS5 ok5
  have HS5 : Hid (s5 = ⟨4, 2, 1, [1, 2], [true, true], [(.int .i64 70), (.int .i64 9)]⟩) := by rw [hs5, HS4.out]; rfl
  replace HP5 := hide HP5
  have hz_ha := hf5.away (World.block_lt_of_cell? _ _ ha0) hn_ha
  replace ha0 := hf5.cell hn_ha ha0
  replace ha1 := hf5.cell hn_ha ha1
  replace hn_ha := hz_ha
  have hz_hb := hf5.away (World.block_lt_of_cell? _ _ hb0) hn_hb
  replace hb0 := hf5.cell hn_hb hb0
  replace hb1 := hf5.cell hn_hb hb1
  replace hn_hb := hz_hb
  replace hS5 := hide hS5
  clear hf5 hs5 hS4 hF4 hc5
  have hk6 : Hid (NextIs s5 2) := next_of (by rw [HS5.out]; decide)
  have hc6 := put_dI hS5.out ok5.out 10 HP5.out hk6.out (by rw [HS5.out]; decide) (a := 2) (b := 1) rfl (by rw [HS5.out]; decide)
  gi_wp2
  refine ⟨trivial, (callsIn_wide.2 hc6).mono ?_⟩
  rintro e V6 ⟨rfl, m6, HP6, hS6, hf6⟩
  have zc := hf6.away (World.block_lt_of_cell? _ _ xc) hn_c
  have zd := hf6.away (World.block_lt_of_cell? _ _ xd) hn_d
  have zh := hf6.away (World.block_lt_of_cell? _ _ (hRh 0 _ rfl)) hn_h
  have zx := hf6.away (World.block_lt_of_cell? _ _ (hRx 0 _ rfl)) hn_x
  replace xc := hf6.cell hn_c xc
  replace xd := hf6.cell hn_d xd
  replace hRh : Rw V6 gh 0 (hRow [(0, 1), (1, 1)]) := fun j u hj => hf6.cell hn_h (hRh j u hj)
  replace hRx : Rw V6 gx 0 (xRow [7, 8]) := fun j u hj => hf6.cell hn_x (hRx j u hj)
  replace hn_c := zc
  replace hn_d := zd
  replace hn_h := zh
  replace hn_x := zx
  have hF6 := hide (hF5.out.trans hf6)
  have ok6 := hide (ok5.out.put hk6.out (by rw [HS5.out]; decide) (.int .i64 10))
  obtain ⟨s6, hs6⟩ : ∃ s : Ss, s = putS s5 2 (.int .i64 10) := ⟨_, rfl⟩
  rw [← hs6] at hS6 ok6
  have HS6 : Hid (s6 = ⟨4, 3, 2, [1, 2, 1], [true, true, true], [(.int .i64 70), (.int .i64 9), (.int .i64 10)]⟩) := by rw [hs6, HS5.out]; rfl
  replace HP6 := hide HP6
  have hz_ha := hf6.away (World.block_lt_of_cell? _ _ ha0) hn_ha
  replace ha0 := hf6.cell hn_ha ha0
  replace ha1 := hf6.cell hn_ha ha1
  replace hn_ha := hz_ha
  have hz_hb := hf6.away (World.block_lt_of_cell? _ _ hb0) hn_hb
  replace hb0 := hf6.cell hn_hb hb0
  replace hb1 := hf6.cell hn_hb hb1
  replace hn_hb := hz_hb
  replace hS6 := hide hS6
  clear hf6 hs6 hS5 hF5 hc6
  have qf := run_eql_fn
  gi_wp2
  have bA := st_bel (W := V6) #[.slice none 0 0] 39
  have bB := st_bel (W := (V6.alloc (.cells #[.slice none 0 0] 39))) #[.slice none 0 0] 35
  have bR := bl_trans bA bB
  have cp : ((V6.alloc (.cells #[.slice none 0 0] 39)).alloc (.cells #[.slice none 0 0] 35)).cell? ⟨V6.heap.size, 0, none⟩ = some (.slice none 0 0) := keep bB (by rw [World.cell?_alloc_new]; rfl)
  have cq : ((V6.alloc (.cells #[.slice none 0 0] 39)).alloc (.cells #[.slice none 0 0] 35)).cell? ⟨V6.heap.size + 1, 0, none⟩ = some (.slice none 0 0) := by
    have := World.cell?_alloc_new (V6.alloc (.cells #[.slice none 0 0] 39)) #[.slice none 0 0] 35 0
    simp only [World.size_alloc] at this
    rw [this]; rfl
  have fp : ((V6.alloc (.cells #[.slice none 0 0] 39)).alloc (.cells #[.slice none 0 0] 35)).frozen? ⟨V6.heap.size, 0, none⟩ = false := (bR.2 _).trans (fr_frozen (Nat.le_refl _))
  have fq : ((V6.alloc (.cells #[.slice none 0 0] 39)).alloc (.cells #[.slice none 0 0] 35)).frozen? ⟨V6.heap.size + 1, 0, none⟩ = false := (bR.2 _).trans (fr_frozen (Nat.le_succ _))
  have hcs := World.block_lt_of_cell? _ _ xc
  have hds := World.block_lt_of_cell? _ _ xd
  have hhs := World.block_lt_of_cell? _ _ (hRh 0 _ rfl)
  have hxs := World.block_lt_of_cell? _ _ (hRx 0 _ rfl)
  have has := World.block_lt_of_cell? _ _ ha0
  have hbs := World.block_lt_of_cell? _ _ hb0
  simp only at hcs hds hhs hxs has hbs
  replace xc := keep bR xc
  replace xd := keep bR xd
  replace hRh : Rw ((V6.alloc (.cells #[.slice none 0 0] 39)).alloc (.cells #[.slice none 0 0] 35)) gh 0 (hRow [(0, 1), (1, 1)]) := fun j u hj => keep bR (hRh j u hj)
  replace hRx : Rw ((V6.alloc (.cells #[.slice none 0 0] 39)).alloc (.cells #[.slice none 0 0] 35)) gx 0 (xRow [7, 8]) := fun j u hj => keep bR (hRx j u hj)
  have hwz : w.heap.size ≤ V6.heap.size := hF6.out.size
  replace ha0 := keep bR ha0
  replace ha1 := keep bR ha1
  replace hb0 := keep bR hb0
  replace hb1 := keep bR hb1
  replace hF6 := hide (hF6.out.trans (Fr.of_bel bR))
  obtain ⟨q9, hq9⟩ : ∃ x, x = V6.heap.size + 1 := ⟨_, rfl⟩
  obtain ⟨p8, hp8⟩ : ∃ x, x = V6.heap.size := ⟨_, rfl⟩
  obtain ⟨WR, hWR⟩ : ∃ x, x = ((V6.alloc (.cells #[.slice none 0 0] 39)).alloc (.cells #[.slice none 0 0] 35)) := ⟨_, rfl⟩
  have hsz : WR.heap.size = V6.heap.size + 2 := by rw [hWR]; simp
  rw [← hWR, ← hp8] at cp fp
  rw [← hWR, ← hq9] at cq fq
  rw [← hWR] at xc xd hRh hRx ha0 ha1 hb0 hb1 hF6
  rw [← hWR, ← hq9, ← hp8]
  have hpl : p8 < WR.heap.size := by omega
  have hql : q9 < WR.heap.size := by omega
  have hpq : p8 ≠ q9 := by omega
  have hFs : ∀ k ∈ [c, c + 1, gh, gx], k < WR.heap.size ∧ k ≠ p8 ∧ k ≠ q9 := by
    intro k hk
    simp only [List.mem_cons, List.not_mem_nil, or_false] at hk
    rcases hk with rfl | rfl | rfl | rfl <;> omega
  have hAB : ∀ k ∈ [haq, hbq], k < WR.heap.size ∧ k ≠ p8 ∧ k ≠ q9 := by
    intro k hk
    simp only [List.mem_cons, List.not_mem_nil, or_false] at hk
    rcases hk with rfl | rfl <;> omega
  have hpw : w.heap.size ≤ p8 := by omega
  have hqw : w.heap.size ≤ q9 := by omega
  have hgl : gh < WR.heap.size := by omega
  have hxl : gx < WR.heap.size := by omega
  clear hWR bA bB bR hp8 hq9 hsz
  refine range_2 (po := 10) (qo := 11) (by decide) rfl (enters_of Try.func33 (by kernel_rfl) rfl) [c, c + 1, gh, gx] 2 [((0, 1), 7), ((1, 1), 8)] (all_stopsI _ c 2 gh gx ch cx [((0, 1), 7), ((1, 1), 8)] WR rfl (by decide) xc xd hRh hRx hgl hxl) (fun k hk => (hFs k hk).1)
    (fun E W => ∃ sh ch sx cx, Tw WR p8 q9 E W sh ch sx cx) ?hI ?h0 ?hassign ?hbody ?hdone
  case hI =>
    rintro E X Y row ⟨sh, ch, sx, cx, h⟩ hg hr
    exact ⟨sh, ch, sx, cx, h.grown hpl hql hg hr⟩
  case h0 => exact ⟨none, 0, none, 0, cp, cq, fp, fq, Ro.nil _ _, Ro.nil _ _, (fun k hk => by cases hk), (fun k hk => by cases hk), Fr.refl _ _, fun _ => ⟨rfl, rfl⟩⟩
  case hassign =>
    rintro l pre x W K ⟨sh, ch, sx, cx, h⟩ hK
    simp only [List.setIfInBounds_toArray, List.set_cons_zero, List.set_cons_succ] at hK ⊢
    gi_wp2
    have hbx := st_bel (W := W) #[.int .u32 (x.1.1 : Int), .int .u32 (x.1.2 : Int)] 29
    exact hK W.heap.size _ (KeepsFrom.of_bel hbx) (fun k hk o => hbx.1.cell (p := ⟨k, o, none⟩) (Nat.lt_of_lt_of_le (hFs k hk).1 h.fr.size)) ⟨sh, ch, sx, cx, h.bel hbx⟩ (by rw [World.cell?_alloc_new]; rfl) (by rw [World.cell?_alloc_new]; rfl)
  case hbody =>
    rintro l pre x bx W ⟨sh, ch, sx, cx, h⟩ x0 x1 hlen
    simp only [List.setIfInBounds_toArray, List.set_cons_zero, List.set_cons_succ]
    have e1 : pre.length + 1 ≤ maxLen := by unfold maxLen; omega
    have e2 : (pre.length + 1) * 8 ≤ 140737488355328 := by omega
    have k1 := h.cp
    have bV := st_bel (W := W) #[.int .u32 (x.1.1 : Int), .int .u32 (x.1.2 : Int)] 29
    obtain ⟨sh6, ch6, w6, hrun, hR6, hf6⟩ := Ro.app (P := Try.prog) 39 39 29 Try.underlying39 info_han rfl (by decide) W.heap.size 0 1 1 (h.bel bV).rh (N := hRow [(x.1.1, x.1.2)]) rfl (mk_rws W [.int .u32 (x.1.1 : Int), .int .u32 (x.1.2 : Int)] 29) (hRow_two x.1.1 x.1.2) (by decide) e1 e2
    obtain ⟨z1, z2, z3, z4, z5, z6, z7, z8, z9, za, zs, fW, u, cW⟩ := Tw.first h hpl hql hpq bV (n := pre.length + 1) rfl (x := x) (by rw [List.map_append, hRow_app]; exact hR6) hf6
    have hd2 := h.d2
    have he0 := fun e => (h.e0 e).2
    have hz8 := hide z8
    have HA := hide (And.intro z5 (And.intro z6 (And.intro z7 (And.intro z9 za))))
    clear z5 z6 z7 z8 z9 za hR6 hf6 bV
    refine wpIn_block ?_
    refine wpIn_seq_k ?_
    intro K2 hK2
    refine wpIn_region_plain l _ (by rfl) ?_
    go_wp2_with (first | (at_builtin; refine wpList_run 39 (.tmp 49) (.tmp 51) rfl rfl rfl rfl hrun ?_))
    obtain ⟨Z, hZ⟩ : ∃ x, x = w6.setCell ⟨p8, 0, none⟩ (.slice sh6 (pre.length + 1) ch6) := ⟨_, rfl⟩
    rw [← hZ] at z1 z2 z3 z4 hz8 HA zs
    show K2 _ _
    rw [← hZ]
    refine hK2 _ _ ?_
    clear hZ hrun cW fW k1 K2 hK2
    obtain ⟨z5, z6, z7, z9, za⟩ := HA.out
    have bV := st_bel (W := Z) #[.int .i64 x.2] 3
    obtain ⟨sx7, cx7, w7, hrun, hR7, hf7⟩ := Ro.app (P := Try.prog) 35 35 3 Try.underlying35 info_I rfl (by decide) Z.heap.size 0 1 1 (z6.bel bV) (N := [.int .i64 x.2]) rfl (mk_rws Z [.int .i64 x.2] 3) (by intro v hv; simp only [List.mem_cons, List.not_mem_nil, or_false] at hv; subst hv; rfl) (by decide) e1 e2
    obtain ⟨hTg, fW, u7, cW⟩ := Tw.second (x := x) rfl hpl hql hpq z1 z2 z3 z4 z5 z6 z7 hd2 he0 hz8.out z9 za bV (by rw [List.map_append, xRow_app]; exact hR7) hf7
    replace hTg := hide hTg
    clear z5 z6 z7 z9 za HA hR7 hf7 bV hz8 he0
    refine wpIn_region_plain l _ (by rfl) ?_
    go_wp2_with (first | (at_builtin; refine wpList_run 35 (.tmp 53) (.tmp 55) rfl rfl rfl rfl hrun ?_))
    exact ⟨hTg.out.kf, fun k hk o => heap_cell_eq (hTg.out.old k (hFs k hk).1 (hFs k hk).2.1 (hFs k hk).2.2) o, _, _, _, _, hTg.out.tw⟩
  case hdone =>
    rintro D W hDw ⟨sh, ch, sx, cx, h⟩ hdd
    have hrh := h.rh
    have hrx := h.rx
    obtain ⟨g1, rfl, _, _, hG1, _, _, hg1l⟩ := hrh.at (by decide)
    obtain ⟨g2, rfl, _, _, hG2, _, _, hg2l⟩ := hrx.at (by decide)
    have k1 : W.cell? ⟨p8, 0, none⟩ = some (.slice (some ⟨g1, 0, none⟩) 2 ch) := h.cp
    have k2 : W.cell? ⟨q9, 0, none⟩ = some (.slice (some ⟨g2, 0, none⟩) 2 cx) := h.cq
    have y0 : W.cell? ⟨g1, 0, none⟩ = some (.int .u32 0) := hG1 0 _ rfl
    have y1 : W.cell? ⟨g1, 1, none⟩ = some (.int .u32 1) := hG1 1 _ rfl
    have y2 : W.cell? ⟨g1, 2, none⟩ = some (.int .u32 1) := hG1 2 _ rfl
    have y3 : W.cell? ⟨g1, 3, none⟩ = some (.int .u32 1) := hG1 3 _ rfl
    have y4 : W.cell? ⟨g2, 0, none⟩ = some (.int .i64 7) := hG2 0 _ rfl
    have y5 : W.cell? ⟨g2, 1, none⟩ = some (.int .i64 8) := hG2 1 _ rfl
    have nin : ∀ k, k ∈ [haq, hbq] → k ∉ [p8, q9] := fun k hk hm => by
      have := hAB k hk
      simp only [List.mem_cons, List.not_mem_nil, or_false] at hm
      omega
    replace ha0 := h.fr.cell (nin haq (by simp)) ha0
    replace ha1 := h.fr.cell (nin haq (by simp)) ha1
    replace hb0 := h.fr.cell (nin hbq (by simp)) hb0
    replace hb1 := h.fr.cell (nin hbq (by simp)) hb1
    have hlow : Hid (Below w.heap.size w W) := (hF6.out.below (Nat.le_refl _) (fun k hk => by cases hk)).trans (h.fr.below hF6.out.size (fun k hk => by
      simp only [List.mem_cons, List.not_mem_nil, or_false] at hk
      omega))
    have hwD : w.heap.size ≤ D := by have := hF6.out.size; omega
    clear h hrh hrx hG1 hG2 nin
    gi_wp2
    refine wpIn_wide.2 ?_
    go_quiet (fail)
    gi_wp2
    refine leaves_marks _ [D] _ rfl (by simp) (fun E hE => by simp only [List.mem_cons, List.not_mem_nil, or_false] at hE; subst hE; exact hdd) (fun W' hS => ?_)
    refine ⟨.bool true, ?_, rfl, ⟨hS.os.trans hlow.out.os, hS.tape.trans hlow.out.tape, hS.output.trans hlow.out.output, by have h1 := hlow.out.size; have h2 : W'.heap.size = W.heap.size := hS.size; omega, fun k hk => (hS.block k (by simp only [List.mem_cons, List.not_mem_nil, or_false]; omega)).trans (hlow.out.block k hk)⟩⟩
    simp [results, Try.results8, go_sem]

end Go.Proofs.Ytnfhedmlifjlmaa
