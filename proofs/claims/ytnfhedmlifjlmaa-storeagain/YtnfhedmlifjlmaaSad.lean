/-
  What each function of package store answers, and what its memory holds afterwards: one contract a function; of the memory that was there only the store's own blocks have turned.
-/
import Derived.Test.YtnfhedmlifjlmaaChecked
import Derived.Test.YtnfhedmlifjlmaaSaa
import Derived.Test.YtnfhedmlifjlmaaSaf
import Derived.Test.YtnfhedmlifjlmaaSae
import Derived.Test.YtnfhedmlifjlmaaStp
import Derived.RangeFuncNested
import Derived.RangeFuncBound
import Derived.RangeFuncCalls
import Derived.RangeFuncLeaves
import Derived.Shelf.Abstract
import Derived.Shelf.RegionOpen
import Derived.OwnWalkIn
import Derived.TacticsInMore
import Derived.LoopNIn
import Derived.LoopIn
import Derived.Maps.OwnIn
import Derived.Sort.LoopGhostIn
import Derived.BigRegionIn
import Derived.Stop.RegionWithIn
import Derived.Below
import Derived.BigQuiet
import Derived.OwnWalk
import Derived.Laws.AppendOwn
import Derived.Laws.AppendOwnNone
import Derived.WalkKit
import Derived.WalkLawsBesides
import Derived.WalkSpells
import Derived.ProofKit
import Derived.OpenShut
import Derived.Deep.RegionHeld3
import Derived.Deep.LoopGhost
import Derived.Laws.StructEq
import Derived.Lib.Builder
import Derived.Deep.DeepCutAuto
import Derived.Lib.SliceRun
import Derived.Laws.MakeOwn
namespace Go.Proofs.Ytnfhedmlifjlmaa
open Go.ChangeShapes Go.WideShapes Go.ChangeAt Go.RowKit Go.Lib
set_option linter.unusedVariables false
set_option linter.unusedSimpArgs false
set_option maxRecDepth 100000
set_option maxHeartbeats 4000000


theorem clrT_ty (L : List Bool) (T : List Value) (hT : ∀ v ∈ T, ∃ x, v = .int .i64 x) : ∀ k, ∀ v ∈ clrT L T (.int .i64 0) k, ∃ x, v = .int .i64 x
  | 0 => hT
  | k + 1 => fun v hv => by
    unfold clrT at hv
    split at hv
    · exact clrT_ty L T hT k v hv
    · rcases List.mem_or_eq_of_mem_set hv with hv | rfl
      · exact clrT_ty L T hT k v hv
      · exact ⟨0, rfl⟩

theorem clrT_live (L : List Bool) (T : List Value) (z : Value) (i : Nat) (h : L[i]? = some true) : ∀ k, (clrT L T z k)[i]? = T[i]?
  | 0 => rfl
  | k + 1 => by
    unfold clrT
    split
    · exact clrT_live L T z i h k
    · rename_i hk
      rw [set_get, if_neg (fun e => hk (by rw [e]; exact h))]
      exact clrT_live L T z i h k

attribute [local go_sem] Oper.semAt_some
theorem again17 (sa0 : Option Addr) (n0 cap0 : Nat) (Y0 : Nat → Int) (sa1 : Option Addr) (n1 cap1 : Nat) (Y1 : Nat → Int) (w : World) (hA0 : AnyI w sa0 n0 Y0) (h0 : n0 ≤ 140737488355328) (hA1 : AnyI w sa1 n1 Y1) (h1 : n1 ≤ 140737488355328) : Calls Try.prog 4 #[.slice sa0 n0 cap0, .slice sa1 n1 cap1] w fun e w' => e = .returned (.bool true) ∧ Below w.heap.size w w' := by
  have HA0 := hide hA0
  have HA1 := hide hA1
  clear hA0 hA1
  refine callsIn_wide (n := 9).1 ?_
  refine callsIn_of_wp_marks Try.func4 rfl trivial ?_ rfl
  simp only [Try.ntmps4, List.size_toArray, List.length_cons, List.length_nil, Nat.reduceAdd, Nat.reduceSub, Array.replicate_succ, Array.replicate_zero, List.push_toArray, List.append_toArray, List.nil_append, List.cons_append]
  gi_wp2
  have b0 := st_bel (W := w) #[.bool false] 4
  have r4 : (w.alloc (.cells #[.bool false] 4)).cell? ⟨w.heap.size, 0, none⟩ = some (.bool false) := by rw [World.cell?_alloc_new]; rfl
  have f4 : (w.alloc (.cells #[.bool false] 4)).frozen? ⟨w.heap.size, 0, none⟩ = false := (b0.2 _).trans (fr_frozen (Nat.le_refl _))
  have L0 := hide b0.1
  obtain ⟨b4, hb4⟩ : ∃ x, x = w.heap.size := ⟨_, rfl⟩
  obtain ⟨W0, hW0⟩ : ∃ x, x = w.alloc (.cells #[.bool false] 4) := ⟨_, rfl⟩
  have hb4w : w.heap.size ≤ b4 := by omega
  rw [← hW0] at r4 f4 L0
  rw [← hb4] at r4 f4
  rw [← hW0, ← hb4]
  clear hW0 hb4 b0
  refine ⟨trivial, (callsIn_wide.2 (alive17 _)).mono ?_⟩
  rintro e W1 ⟨rfl, hb1⟩
  have k1 := hb1.block b4 (World.block_lt_of_cell? _ _ r4)
  replace r4 := (heap_cell_eq k1 0).trans r4
  replace f4 := (heap_frozen_eq k1 0).trans f4
  have L1 := hide (L0.out.trans (hb1.mono L0.out.size))
  clear L0 hb1 k1
  have hnew := new_dI 40 (by decide) (by decide) W1 (x := 40) rfl
  gi_wp2
  refine ⟨trivial, (callsIn_wide.2 hnew).mono ?_⟩
  rintro e W2 ⟨p, rfl, hp, hS, hb2⟩
  have bb := st_bel (W := W2) #[.pointer (some ⟨p, 0, none⟩)] 23
  have c6 : (W2.alloc (.cells #[.pointer (some ⟨p, 0, none⟩)] 23)).cell? ⟨W2.heap.size, 0, none⟩ = some (.pointer (some ⟨p, 0, none⟩)) := by rw [World.cell?_alloc_new]; rfl
  have k2 := bl_trans hb2 bb
  have l4 := World.block_lt_of_cell? _ _ r4
  simp only at l4
  have F := hide (F1.mk (b4 := b4) (b6 := W2.heap.size) (p := p) (W := W2.alloc (.cells #[.pointer (some ⟨p, 0, none⟩)] 23)) ⟨_, keep k2 r4⟩ ((k2.2 _).trans f4) c6)
  have L3 := hide (L1.out.trans (k2.1.mono L1.out.size))
  have hpw : w.heap.size ≤ p := Nat.le_trans L1.out.size hp
  have S3 := hide (hS.bel bb)
  have G3 : Hid (Gd ⟨p, none, 0, none, 0, none, 0⟩ ⟨40, 0, 0, [], [], []⟩) := (⟨new_okI (by decide) (by decide), rfl, (fun v hv => by cases hv), (fun i hi => by cases hi), fun _ => ⟨rfl, rfl, rfl, rfl⟩⟩ : Gd ⟨p, none, 0, none, 0, none, 0⟩ ⟨40, 0, 0, [], [], []⟩)
  have hpl := World.block_lt_of_cell? _ _ hS.c0
  simp only at hpl
  have D3 : Hid (Kd [b4, W2.heap.size] (Sm.F ⟨p, none, 0, none, 0, none, 0⟩) (W2.alloc (.cells #[.pointer (some ⟨p, 0, none⟩)] 23))) := (fun k hk => by
    simp only [List.mem_cons, List.not_mem_nil, or_false] at hk
    have := hb2.size
    simp only [Sm.F, ob, List.append_nil, List.mem_cons, List.not_mem_nil, or_false, World.size_alloc]
    rcases hk with rfl | rfl <;> omega)
  have M3 : Hid (∀ k ∈ (Sm.F ⟨p, none, 0, none, 0, none, 0⟩), w.heap.size ≤ k) := (fun k hk => by simp [Sm.F, ob] at hk; omega)
  have hb6w : w.heap.size ≤ W2.heap.size := Nat.le_trans L1.out.size hb2.size
  obtain ⟨b6, hb6⟩ : ∃ x, x = W2.heap.size := ⟨_, rfl⟩
  obtain ⟨W3, hW3⟩ : ∃ x, x = W2.alloc (.cells #[.pointer (some ⟨p, 0, none⟩)] 23) := ⟨_, rfl⟩
  obtain ⟨m, hm⟩ : ∃ x : Sm, x = ⟨p, none, 0, none, 0, none, 0⟩ := ⟨_, rfl⟩
  have HP3 : Hid (m.p = p) := by rw [hm]; exact rfl
  obtain ⟨s0, hs0⟩ : ∃ x : Ss, x = ⟨40, 0, 0, [], [], []⟩ := ⟨_, rfl⟩
  rw [← hW3] at c6 F L3 S3 D3
  rw [← hb6] at c6 F D3 hb6w
  rw [← hm] at S3 G3 D3 M3
  rw [← hs0] at S3 G3
  have hact := acts17 m s0 W3 S3.out G3.out HP3.out sa0 n0 cap0 Y0 (any_low HA0.out L3.out) (fun hn k hk hm2 => by
    rcases HA0.out with h | ⟨b, off, rfl, _, hb⟩
    · omega
    · have := M3.out k hm2
      simp [ob] at hk
      omega) h0
  gi_wp2
  rw [← hW3, ← hb6]
  clear hW3 hb6 hm hs0 r4 f4 L1 hnew hp hS hb2 bb k2 l4 hpw hpl
  refine ⟨trivial, (callsIn_wide.2 hact).mono ?_⟩
  rintro e W4 ⟨m1, s1, sh0, rl0, ch0, rfl, HP4, R0, hPa, hAc, hrl0⟩
  have S4 := hide hPa.st
  have G4 := hide hPa.gd
  obtain ⟨D4, K4⟩ := D3.out.fr hPa.fr
  obtain ⟨L4, M4⟩ := low_of L3.out hPa.fr M3.out
  have F4 := hide (F.out.kh K4 (by simp) (by simp))
  replace D4 := hide D4
  replace L4 := hide L4
  replace M4 := hide M4
  replace HP4 := hide HP4
  obtain ⟨N, hN⟩ : ∃ N, s1.U.length = N := ⟨_, rfl⟩
  have HN := hide hN
  have hN40 : N ≤ 40 := by have h1 := G4.out.ok.um; have h2 := G4.out.mo; omega
  clear hact hPa hAc K4 F D3 L3 M3 S3 G3 HP3 hN c6
  have c6 := F4.out.c6
  have hal := all_I m1 s1 W4 S4.out G4.out.ok G4.out.ty
  rw [HP4.out] at hal
  gi_wp2
  refine ⟨trivial, (callsIn_wide.2 hal).mono ?_⟩
  rintro e W5 ⟨c, n, sh, ch, sx, cx, rfl, hcs, xc, xd, hn, hlt, hP⟩
  obtain ⟨E, hE⟩ : ∃ E, E = enE s1 N := ⟨_, rfl⟩
  have hlT : s1.T.length = s1.L.length := G4.out.ok.tl.trans G4.out.ok.ll.symm
  have hEH : E.map (·.1) = heH s1 s1.U.length := by rw [hE, enE_H, HN.out]
  have hET : xRow (E.map (·.2)) = heT s1 s1.U.length := by rw [hE, enE_T s1 hlT G4.out.ty, HN.out]
  have hEn : Hid (E.length = n) := by have h1 := hn; rw [← hEH, List.length_map] at h1; exact h1
  have hXn : (heT s1 s1.U.length).length = n := by rw [heT_len]; exact hn
  have hrh := hP.rh
  have hrx := hP.rx
  rw [hn, ← hEH] at hrh
  rw [hXn, ← hET] at hrx
  have hlow : Below W4.heap.size W4 W5 := hP.fr.below (Nat.le_refl _) (fun k hk => by cases hk)
  have Q5 := hide (F2.mk xc xd hrh hrx)
  have hxl := World.block_lt_of_cell? _ _ xc
  have hdl := World.block_lt_of_cell? _ _ xd
  simp only at hxl hdl
  have D5 : Hid (Kd (b4 :: b6 :: c :: (c + 1) :: (ob sh ++ ob sx)) m1.F W5) := (fun k hk => by
    have h2 := hlow.size
    simp only [List.mem_cons, List.mem_append] at hk
    rcases hk with rfl | rfl | rfl | rfl | hk | hk
    · have h1 := D4.out k (by simp); exact ⟨by omega, h1.2⟩
    · have h1 := D4.out k (by simp); exact ⟨by omega, h1.2⟩
    · exact ⟨hxl, fun hm => by have := S4.out.sz k hm; omega⟩
    · exact ⟨hdl, fun hm => by have := S4.out.sz (c + 1) hm; omega⟩
    · exact ⟨by have := hlt k (.inl hk); omega, (hP.d1 k hk).1⟩
    · exact ⟨by have := hlt k (.inr hk); omega, hP.d2 k hk⟩)
  have S5 := hide hP.st
  have F5 := hide (F4.out.kh (D4.out.low hlow).2 (by simp) (by simp))
  have L5 := hide (L4.out.trans (hlow.mono L4.out.size))
  have HE := hide hE
  have hn40 : n ≤ 40 := by have h1 := heH_le s1 N; rw [← hE, hEn.out] at h1; omega
  clear hal hcs xc xd hn hlt hP hE hEH hET hXn hrh hrx hlow hxl hdl c6 S4 F4 L4 D4
  have c6 := F5.out.c6
  have hsl := slots_anyI m1 s1 W5 S5.out G4.out HP4.out N HN.out
  gi_wp2
  refine ⟨trivial, (callsIn_wide.2 hsl).mono ?_⟩
  rintro e W6 ⟨su, cu, sl, cl, rfl, hru, hsu, hrl, hsll, hz0, hb6⟩
  have hmk := make_int N (by omega) W6
  have qf := run_eql_fn
  gi_wp2
  have bA := st_bel (W := W6) (Array.replicate N (.int .i64 0)) 3
  have bB := st_bel (W := (W6.alloc (.cells (Array.replicate N (.int .i64 0)) 3))) #[.slice (some ⟨W6.heap.size, 0, none⟩) N N] 35
  have bC := st_bel (W := ((W6.alloc (.cells (Array.replicate N (.int .i64 0)) 3)).alloc (.cells #[.slice (some ⟨W6.heap.size, 0, none⟩) N N] 35))) #[.int .i64 0] 3
  have bAC := bl_trans (bl_trans bA bB) bC
  have rT : Ro 1 (((W6.alloc (.cells (Array.replicate N (.int .i64 0)) 3)).alloc (.cells #[.slice (some ⟨W6.heap.size, 0, none⟩) N N] 35)).alloc (.cells #[.int .i64 0] 3)) (some ⟨W6.heap.size, 0, none⟩) N N (ttF N []) := ((ro_made W6 N (by omega) (.int .i64 0) 3).bel bB).bel bC
  have c11 : (((W6.alloc (.cells (Array.replicate N (.int .i64 0)) 3)).alloc (.cells #[.slice (some ⟨W6.heap.size, 0, none⟩) N N] 35)).alloc (.cells #[.int .i64 0] 3)).cell? ⟨W6.heap.size + 1, 0, none⟩ = some (.slice (some ⟨W6.heap.size, 0, none⟩) N N) := keep bC (by
    have := World.cell?_alloc_new (W6.alloc (.cells (Array.replicate N (.int .i64 0)) 3)) #[.slice (some ⟨W6.heap.size, 0, none⟩) N N] 35 0
    simp only [World.size_alloc] at this
    rw [this]; rfl)
  have c12 : (((W6.alloc (.cells (Array.replicate N (.int .i64 0)) 3)).alloc (.cells #[.slice (some ⟨W6.heap.size, 0, none⟩) N N] 35)).alloc (.cells #[.int .i64 0] 3)).cell? ⟨W6.heap.size + 1 + 1, 0, none⟩ = some (.int .i64 0) := by
    have := World.cell?_alloc_new ((W6.alloc (.cells (Array.replicate N (.int .i64 0)) 3)).alloc (.cells #[.slice (some ⟨W6.heap.size, 0, none⟩) N N] 35)) #[.int .i64 0] 3 0
    simp only [World.size_alloc] at this
    rw [this]; rfl
  have f12 : (((W6.alloc (.cells (Array.replicate N (.int .i64 0)) 3)).alloc (.cells #[.slice (some ⟨W6.heap.size, 0, none⟩) N N] 35)).alloc (.cells #[.int .i64 0] 3)).frozen? ⟨W6.heap.size + 1 + 1, 0, none⟩ = false := (bAC.2 _).trans (fr_frozen (by omega))
  have hlow : Below W5.heap.size W5 (((W6.alloc (.cells (Array.replicate N (.int .i64 0)) 3)).alloc (.cells #[.slice (some ⟨W6.heap.size, 0, none⟩) N N] 35)).alloc (.cells #[.int .i64 0] 3)) := hb6.trans (bAC.1.mono hb6.size)
  obtain ⟨D6, K6⟩ := D5.out.low hlow
  have F6 := hide (F5.out.kh K6 (by simp) (by simp))
  have Q6 := hide (Q5.out.kh K6 hlow.size (fun i hi => by simp only [List.mem_cons] at hi ⊢; exact .inr (.inr hi)))
  have S6 := hide (S5.out.low hlow)
  have L6 := hide (L5.out.trans (hlow.mono L5.out.size))
  have hul : ∀ k, k ∈ ob su ++ ob sl → k < W6.heap.size := fun k hk => by rcases List.mem_append.1 hk with hk | hk; exact hru.lt k hk; exact hrl.lt k hk
  replace hru := hide (hru.bel bAC)
  replace hrl := hide (hrl.bel bAC)
  have hz6 : (((W6.alloc (.cells (Array.replicate N (.int .i64 0)) 3)).alloc (.cells #[.slice (some ⟨W6.heap.size, 0, none⟩) N N] 35)).alloc (.cells #[.int .i64 0] 3)).heap.size = W6.heap.size + 3 := by simp
  have hKl : ∀ k, k ∈ b4 :: b6 :: c :: (c + 1) :: (ob sh ++ ob sx) → k < W6.heap.size := fun k hk => Nat.lt_of_lt_of_le (D5.out k hk).1 hb6.size
  have hml : ∀ k, k ∈ m1.F → k < W6.heap.size := fun k hk => Nat.lt_of_lt_of_le (S5.out.sz k hk) hb6.size
  have hw6 : w.heap.size ≤ W6.heap.size := Nat.le_trans L5.out.size hb6.size
  obtain ⟨b12, hb12⟩ : ∃ x, x = W6.heap.size + 1 + 1 := ⟨_, rfl⟩
  obtain ⟨b11, hb11⟩ : ∃ x, x = W6.heap.size + 1 := ⟨_, rfl⟩
  obtain ⟨gT, hgT⟩ : ∃ x, x = W6.heap.size := ⟨_, rfl⟩
  obtain ⟨WR, hWR⟩ : ∃ x, x = (((W6.alloc (.cells (Array.replicate N (.int .i64 0)) 3)).alloc (.cells #[.slice (some ⟨W6.heap.size, 0, none⟩) N N] 35)).alloc (.cells #[.int .i64 0] 3)) := ⟨_, rfl⟩
  rw [← hWR] at rT c11 c12 f12 D6 F6 Q6 S6 L6 hru hrl hz6
  rw [← hb12] at c12 f12
  rw [← hb11] at c11
  rw [← hgT] at rT c11
  rw [← hWR, ← hb12, ← hb11, ← hgT]
  have hgl : gT < WR.heap.size := by omega
  have h11l : b11 < WR.heap.size := by omega
  have h12l : b12 < WR.heap.size := by omega
  have hne : gT ≠ b12 ∧ gT ≠ b11 ∧ b11 ≠ b12 := by omega
  have hgw : w.heap.size ≤ gT ∧ w.heap.size ≤ b12 ∧ w.heap.size ≤ b11 := by omega
  have hKn : ∀ k, k ∈ b4 :: b6 :: c :: (c + 1) :: (ob sh ++ ob sx) → k < WR.heap.size ∧ k ≠ gT ∧ k ≠ b12 ∧ k ≠ b11 := fun k hk => by have := hKl k hk; omega
  have hmn : ∀ k, k ∈ m1.F → k < WR.heap.size ∧ k ≠ gT ∧ k ≠ b12 ∧ k ≠ b11 := fun k hk => by have := hml k hk; omega
  have hun : ∀ k, k ∈ ob su ++ ob sl → k < WR.heap.size ∧ k ≠ gT ∧ k ≠ b12 ∧ k ≠ b11 := fun k hk => by have := hul k hk; omega
  clear hul hWR hb12 hb11 hgT bA bB bC bAC hlow D5 K6 F5 Q5 S5 L5 hz6 hKl hml hw6 hsl hmk c6 hb6
  refine range_G (α := { x : El // x ∈ E }) Subtype.val (po := 13) (qo := 14) (by decide) rfl (enters_of Try.func33 (by kernel_rfl) rfl) (c :: (c + 1) :: (ob sh ++ ob sx)) n E.attach (all_stopsGA Subtype.val E.attach _ c n sh sx ch cx E WR (List.attach_map_subtype_val E) hEn.out (by omega) Q6.out.xc Q6.out.xd Q6.out.rh Q6.out.rx) (fun k hk => (hKn k (by simp only [List.mem_cons] at hk ⊢; exact .inr (.inr hk))).1)
    (fun pre W => Tn WR gT b12 N (pre.map Subtype.val) W) ?hI ?h0 ?hassign ?hbody ?hdone
  case hI =>
    rintro pre X Y row h hg hr
    exact h.grown hgl h12l hg hr
  case h0 => exact ⟨c12, f12, rT, Fr.refl _ _⟩
  case hassign =>
    rintro l pre x W K h hK
    simp only [List.setIfInBounds_toArray, List.set_cons_zero, List.set_cons_succ] at hK ⊢
    gi_wp2
    have hbx := st_bel (W := W) #[.int .u32 (x.1.1.1 : Int), .int .u32 (x.1.1.2 : Int)] 29
    exact hK W.heap.size _ (KeepsFrom.of_bel hbx) (fun k hk o => hbx.1.cell (p := ⟨k, o, none⟩) (Nat.lt_of_lt_of_le (hKn k (by simp only [List.mem_cons] at hk ⊢; exact .inr (.inr hk))).1 h.fr.size)) (h.bel hbx) (by rw [World.cell?_alloc_new]; rfl) (by rw [World.cell?_alloc_new]; rfl)
  case hbody =>
    rintro l pre ⟨⟨⟨k, u⟩, v⟩, hx⟩ bx W h x0 x1 hlen
    simp only [List.setIfInBounds_toArray, List.set_cons_zero, List.set_cons_succ] at x0 x1 ⊢
    have hkN : k < N := enE_lt s1 N ((k, u), v) (by rw [← HE.out]; exact hx)
    obtain ⟨q, hq⟩ : ∃ q : List El, q = pre.map Subtype.val := ⟨_, rfl⟩
    have hql : q.length = pre.length := by rw [hq, List.length_map]
    rw [← hq] at h
    have hz1 : ¬ (N : Int) ≤ (k : Int) := by omega
    have hz2 : (k : Int) < (N : Int) := by omega
    have ew1 : IntKind.wrap .i64 (k : Int) = (k : Int) := by rw [IntKind.wrap_i64]; omega
    have ew2 : IntKind.wrap .i64 ((q.length : Int) + 1) = (q.length : Int) + 1 := by rw [IntKind.wrap_i64]; omega
    have y11 := h.fr.cell (k := b11) (by simp only [List.mem_cons, List.not_mem_nil, or_false]; omega) c11
    obtain ⟨_, _, _, _, hsm, hfz⟩ := own_parts h.rt.own
    obtain ⟨u0, hu0⟩ := Option.isSome_iff_exists.1 (hsm k (by omega))
    have hf0 := hfz k
    have y12 := h.cb
    have g12 := h.fb
    have y12' : (W.setCell ⟨gT, k, none⟩ (.int .i64 v)).cell? ⟨b12, 0, none⟩ = some (.int .i64 (q.length : Int)) := by rw [heap_cell_eq (Below.heap_setCell W _ _ b12 (fun e => hne.1 e.symm))]; exact y12
    have g12' : (W.setCell ⟨gT, k, none⟩ (.int .i64 v)).frozen? ⟨b12, 0, none⟩ = false := (World.frozen?_setCell _ _ _ _).trans g12
    obtain ⟨hT, hKf, hold⟩ := h.step hgl h12l hne.1 (x := ((k, u), v)) hkN (c := (q.length : Int) + 1) (by simp)
    have HR : Hid (ownPostG WR.heap.size (KpL (c :: (c + 1) :: (ob sh ++ ob sx))) (fun (pre : List { x : El // x ∈ E }) W => Tn WR gT b12 N (pre.map Subtype.val) W) (fun _ _ _ => False) (pre ++ [⟨((k, u), v), hx⟩]) W .normal ⟨#[], []⟩ ((W.setCell ⟨gT, k, none⟩ (.int .i64 v)).setCell ⟨b12, 0, none⟩ (.int .i64 ((q.length : Int) + 1)))) :=
      ⟨hKf, fun i hi o => heap_cell_eq (hold i (by have := hKn i (by simp only [List.mem_cons] at hi ⊢; exact .inr (.inr hi)); omega) (by have := hKn i (by simp only [List.mem_cons] at hi ⊢; exact .inr (.inr hi)); omega)) o, by show Tn WR gT b12 N (List.map Subtype.val (pre ++ [⟨((k, u), v), hx⟩])) _; rw [List.map_append, ← hq]; exact hT⟩
    clear hT hKf hold hsm hfz h hq hql
    gi_wp2
    exact HR.out
  case hdone =>
    rintro D W hDw h hdd
    rw [List.attach_map_subtype_val] at h
    have K7 : Kh ((b4 :: b6 :: c :: (c + 1) :: (ob sh ++ ob sx)) ++ (m1.F ++ ((ob su ++ ob sl) ++ [b11]))) WR W := fun k hk => by
      have hk2 : k < WR.heap.size ∧ k ≠ gT ∧ k ≠ b12 := by
        rcases List.mem_append.1 hk with hk | hk
        · have := hKn k hk; omega
        · rcases List.mem_append.1 hk with hk | hk
          · have := hmn k hk; omega
          · rcases List.mem_append.1 hk with hk | hk
            · have := hun k hk; omega
            · simp only [List.mem_cons, List.not_mem_nil, or_false] at hk; omega
      exact h.fr.block k hk2.1 (by simp only [List.mem_cons, List.not_mem_nil, or_false]; omega)
    have F7 := hide (F6.out.kh K7 (by simp) (by simp))
    have Q7 := hide (Q6.out.kh K7 h.fr.size (fun i hi => List.mem_append_left _ (by simp only [List.mem_cons] at hi ⊢; exact .inr (.inr hi))))
    have S7 := hide (K7.sto h.fr.size (fun k hk => List.mem_append_right _ (List.mem_append_left _ hk)) S6.out)
    have hru7 := K7.ro h.fr.size (fun k hk => List.mem_append_right _ (List.mem_append_right _ (List.mem_append_left _ (List.mem_append_left _ hk)))) hru.out
    have hrl7 := K7.ro h.fr.size (fun k hk => List.mem_append_right _ (List.mem_append_right _ (List.mem_append_left _ (List.mem_append_right _ hk)))) hrl.out
    have c11' := K7.cell (k := b11) (List.mem_append_right _ (List.mem_append_right _ (List.mem_append_right _ (by simp)))) c11
    obtain ⟨L7, _⟩ := low_of L6.out h.fr (fun k hk => by simp only [List.mem_cons, List.not_mem_nil, or_false] at hk; omega)
    replace L7 := hide L7
    have c12' := h.cb
    rw [hEn.out] at c12'
    have hrt := hide h.rt
    have hop := open_anyI N su sl cu cl gT s1.U s1.L (ttF N E) W hN40 hru7 hrl7 h.rt HN.out (G4.out.ok.ll.trans HN.out) hz0 (fun v hv => by obtain ⟨x, rfl⟩ := ttF_ty N E v hv; rfl) G4.out.us
    have hsz7 : WR.heap.size ≤ W.heap.size := h.fr.size
    have hDl : D < W.heap.size := (Array.getElem?_eq_some_iff.1 hdd).1
    have hKn7 : ∀ k, k ∈ (b4 :: b6 :: c :: (c + 1) :: (ob sh ++ ob sx)) ++ [b11, b12, gT, D] → k < W.heap.size := fun k hk => by
      rcases List.mem_append.1 hk with hk | hk
      · have := hKn k hk; omega
      · simp only [List.mem_cons, List.not_mem_nil, or_false] at hk; omega
    have hmn7 : ∀ k, k ∈ (b4 :: b6 :: c :: (c + 1) :: (ob sh ++ ob sx)) ++ [b11, b12, gT, D] → k ∉ m1.F := fun k hk hm => by
      have h1 := hmn k hm
      rcases List.mem_append.1 hk with hk | hk
      · exact (D6 k hk).2 hm
      · simp only [List.mem_cons, List.not_mem_nil, or_false] at hk; omega
    have hDw7 : w.heap.size ≤ D := by have := hgw; have := hDw; omega
    have hb4D : b4 ≠ D := by have := (hKn b4 (by simp)).1; omega
    clear h K7 F6 Q6 S6 hru hrl c11 c12 f12 rT L6 hru7 hrl7 hun hmn hgl h11l h12l qf
    have c6 := F7.out.c6
    gi_wp2
    refine ⟨trivial, (callsIn_wide.2 hop).mono ?_⟩
    rintro e W8 ⟨mt, rfl, hmt, hmz, hT8, hb8⟩
    obtain ⟨q, hq⟩ : ∃ q, q = mt.p := ⟨_, rfl⟩
    have HQ : Hid (mt.p = q) := hq.symm
    rw [← hq]
    obtain ⟨t1, ht1⟩ : ∃ x : Ss, x = ⟨40, s1.L.count true, 0, s1.U, s1.L, clrT s1.L (ttF N E) (.int .i64 0) N⟩ := ⟨_, rfl⟩
    rw [← ht1] at hT8
    have T8 := hide hT8
    have hlL : s1.L.length = N := G4.out.ok.ll.trans HN.out
    have hlT : s1.T.length = s1.L.length := G4.out.ok.tl.trans G4.out.ok.ll.symm
    have hcnt : s1.L.count true = n := by
      have h1 := enE_len s1 N (by omega)
      rw [List.take_of_length_le (by omega), ← HE.out, hEn.out] at h1
      exact h1.symm
    have hE3 : Hid (Eq3 s1 t1) := by
      rw [ht1]
      refine Eq3.mk G4.out.mo rfl rfl (fun i hi => ?_)
      show s1.T[i]? = (clrT s1.L (ttF N E) (.int .i64 0) N)[i]?
      rw [clrT_live _ _ _ i hi]
      obtain ⟨x, hx, rfl⟩ := enE_all s1 N i (by have := lt_of_get hi; omega) hi
      obtain ⟨h1, h2, h3⟩ := enE_mem s1 hlT G4.out.ty N x hx
      rw [h3, ttF_get N E (by rw [HE.out]; exact enE_nodup s1 N) x (by rw [HE.out]; exact hx) h1]
    have hGt : Hid (Gd mt t1) := by
      rw [ht1]
      exact ⟨⟨show 1 ≤ 40 by decide, show 40 ≤ 16384 by decide, (by show s1.U.length ≤ 40; rw [HN.out]; exact hN40), G4.out.ok.ll, (by show (clrT s1.L (ttF N E) (.int .i64 0) N).length = s1.U.length; rw [clrT_len, ttF_len, HN.out]), G4.out.ok.uo, Nat.zero_le _, (fun i hi => absurd hi (Nat.not_lt_zero _)), rfl⟩, rfl, clrT_ty _ _ (ttF_ty N E) N, G4.out.us, fun e => hmz (by have e : s1.U = [] := e; rw [← HN.out, e]; rfl)⟩
    have htl : Hid (t1.ln = n) := by rw [ht1]; exact hcnt
    have hsl9 : Hid (s1.ln = n) := G4.out.ok.lc.trans hcnt
    clear ht1 hq hT8 hop hcnt hlL
    have D8 : Hid (Kd ((b4 :: b6 :: c :: (c + 1) :: (ob sh ++ ob sx)) ++ [b11, b12, gT, D]) m1.F W8) := (fun k hk => ⟨Nat.lt_of_lt_of_le (hKn7 k hk) hb8.size, hmn7 k hk⟩)
    have K8 : Kh ((b4 :: b6 :: c :: (c + 1) :: (ob sh ++ ob sx)) ++ [b11, b12, gT, D]) W W8 := fun k hk => hb8.block k (hKn7 k hk)
    have F8 := hide (F7.out.kh K8 (by simp) (by simp))
    have Q8 := hide (Q7.out.kh K8 hb8.size (fun i hi => List.mem_append_left _ (by simp only [List.mem_cons] at hi ⊢; exact .inr (.inr hi))))
    have S8 := hide (S7.out.low hb8)
    have L8 := hide (L7.out.trans (hb8.mono L7.out.size))
    have dd8 := (K8 D (List.mem_append_right _ (by simp))).trans hdd
    have x11 := K8.cell (k := b11) (List.mem_append_right _ (by simp)) c11'
    have x12 := K8.cell (k := b12) (List.mem_append_right _ (by simp)) c12'
    have hrt8 := hide (hrt.out.low hb8)
    have hmw : Hid (∀ k ∈ mt.F, w.heap.size ≤ k) := (fun k hk => Nat.le_trans L7.out.size (hmt k hk))
    have hdt : Hid (∀ k, k ∈ ((b4 :: b6 :: c :: (c + 1) :: (ob sh ++ ob sx)) ++ [b11, b12, gT, D]) ++ m1.F → k ∉ mt.F) := (fun k hk hm => by
      have h1 := hmt k hm
      rcases List.mem_append.1 hk with hk | hk
      · have := hKn7 k hk; omega
      · have := S7.out.sz k hk; omega)
    have hl1 := fun j => len_dI (S8.out.bel (bl_drewN (bl_refl W8) j)) HP4.out (x := (n : Int)) (by rw [hsl9.out])
    have hl2 := fun j => len_dI (T8.out.bel (bl_drewN (bl_refl W8) j)) HQ.out (x := (n : Int)) (by rw [htl.out])
    clear hKn7 hmn7 K8 hb8 F7 Q7 S7 L7 c11' c12' hrt hmt hmz c6 hsz7
    have c6 := F8.out.c6
    gi_wp2
    refine wpIn_wide.2 ?_
    go_quiet (first | (go_at_call 11; first | exact Calls.quiet_of_same (hl1 _) | exact Calls.quiet_of_same (hl2 _)))
    have bd := bl_drewN (bl_refl W8) nq
    have D9 := hide (D8.out.low bd.1).1
    have K9 := (D8.out.low bd.1).2
    have F9 := hide (F8.out.kh K9 (by simp) (by simp))
    have Q9 := hide (Q8.out.kh K9 bd.size (fun i hi => List.mem_append_left _ (by simp only [List.mem_cons] at hi ⊢; exact .inr (.inr hi))))
    have S9 := hide (S8.out.bel bd)
    have T9 := hide (T8.out.bel bd)
    have L9 := hide (L8.out.trans (bd.1.mono L8.out.size))
    have dd9 := (K9 D (List.mem_append_right _ (by simp))).trans dd8
    replace x11 := keep bd x11
    replace x12 := keep bd x12
    have hrt9 := hide (hrt8.out.bel bd)
    obtain ⟨W9, hW9⟩ : ∃ x, x = W8.drewN nq := ⟨_, rfl⟩
    rw [← hW9] at D9 F9 Q9 S9 T9 L9 x11 x12 hrt9 dd9
    rw [← hW9]
    clear hW9 bd K9 D8 F8 Q8 S8 T8 L8 hrt8 hl1 hl2 c6
    have c6 := F9.out.c6
    have hact := acts17 m1 s1 W9 S9.out G4.out HP4.out sa1 n1 cap1 Y1 (any_low HA1.out L9.out) (fun hn k hk hm2 => by
      rcases HA1.out with h | ⟨b, off, rfl, _, hb⟩
      · omega
      · have := M4.out k hm2
        simp [ob] at hk
        omega) h1
    gi_wp2
    refine ⟨trivial, (callsIn_wide.2 hact).mono ?_⟩
    rintro e W10 ⟨m2, s2, sha, rla, cha, rfl, HP10, Ra, hPa, hAa, hrla⟩
    have S10 := hide hPa.st
    have G10 := hide hPa.gd
    have D9t : Kd (((b4 :: b6 :: c :: (c + 1) :: (ob sh ++ ob sx)) ++ [b11, b12, gT, D]) ++ mt.F) m1.F W9 := fun k hk => by
      rcases List.mem_append.1 hk with hk | hk
      · exact D9.out k hk
      · exact ⟨T9.out.sz k hk, fun hm => hdt.out k (List.mem_append_right _ hm) hk⟩
    obtain ⟨D10, K10⟩ := D9t.fr hPa.fr
    obtain ⟨L10, M10⟩ := low_of L9.out hPa.fr M4.out
    have F10 := F9.out.kh K10 (by simp) (by simp)
    have Q10 := Q9.out.kh K10 hPa.fr.size (fun i hi => List.mem_append_left _ (List.mem_append_left _ (by simp only [List.mem_cons] at hi ⊢; exact .inr (.inr hi))))
    have T10 := K10.sto hPa.fr.size (fun k hk => List.mem_append_right _ hk) T9.out
    have dd10 := (K10 D (List.mem_append_left _ (List.mem_append_right _ (by simp)))).trans dd9
    have z11 := K10.cell (k := b11) (List.mem_append_left _ (List.mem_append_right _ (by simp))) x11
    have z12 := K10.cell (k := b12) (List.mem_append_left _ (List.mem_append_right _ (by simp))) x12
    have hrt10 := K10.ro hPa.fr.size (fun k hk => List.mem_append_left _ (List.mem_append_right _ (by simp [ob] at hk; simp [hk]))) hrt9.out
    have hact3 := acts17 mt t1 W10 T10 hGt.out HQ.out sa1 n1 cap1 Y1 (any_low HA1.out L10) (fun hn k hk hm2 => by
      rcases HA1.out with h | ⟨b, off, rfl, _, hb⟩
      · omega
      · have := hmw.out k hm2
        simp [ob] at hk
        omega) h1
    have hlnA := hPa.ln
    have RA := hide (And.intro hPa.ro hPa.d)
    have HAA := hide hAa
    replace HP10 := hide HP10
    replace D10 := hide D10
    replace L10 := hide L10
    replace M10 := hide M10
    replace F10 := hide F10
    replace Q10 := hide Q10
    replace T10 := hide T10
    replace hrt10 := hide hrt10
    have hT9s : Hid (∀ k ∈ mt.F, k < W9.heap.size) := T9.out.sz
    clear hPa hAa D9t K10 D9 F9 Q9 S9 T9 L9 x11 x12 hrt9 hact c6 HP4 M4
    have HLA := hide hlnA
    clear hlnA
    gi_wp2
    refine ⟨trivial, (callsIn_wide.2 hact3).mono ?_⟩
    rintro e W11 ⟨mt2, t2, shb, rlb, chb, rfl, HQ11, Rb, hPb, hAb, hrlb⟩
    have D10t : Kd (((b4 :: b6 :: c :: (c + 1) :: (ob sh ++ ob sx)) ++ [b11, b12, gT, D]) ++ (m2.F ++ ob sha)) mt.F W10 := fun k hk => by
      rcases List.mem_append.1 hk with hk | hk
      · exact ⟨(D10.out k (List.mem_append_left _ hk)).1, hdt.out k (List.mem_append_left _ hk)⟩
      · rcases List.mem_append.1 hk with hk | hk
        · exact ⟨S10.out.sz k hk, fun hm => (D10.out k (List.mem_append_right _ hm)).2 hk⟩
        · exact ⟨RA.out.1.lt k hk, fun hm => by have h1 := (RA.out.2 k hk).1; have h2 := hT9s.out k hm; omega⟩
    obtain ⟨_, K11⟩ := D10t.fr hPb.fr
    have L11 := hide (low_of L10.out hPb.fr hmw.out).1
    have F11 := hide (F10.out.kh K11 (by simp) (by simp))
    have Q11 := hide (Q10.out.kh K11 hPb.fr.size (fun i hi => List.mem_append_left _ (List.mem_append_left _ (by simp only [List.mem_cons] at hi ⊢; exact .inr (.inr hi)))))
    have S11 := hide (K11.sto hPb.fr.size (fun k hk => List.mem_append_right _ (List.mem_append_left _ hk)) S10.out)
    have dd11 := (K11 D (List.mem_append_left _ (List.mem_append_right _ (by simp)))).trans dd10
    have y11 := K11.cell (k := b11) (List.mem_append_left _ (List.mem_append_right _ (by simp))) z11
    have y12 := K11.cell (k := b12) (List.mem_append_left _ (List.mem_append_right _ (by simp))) z12
    have hrt11 := hide (K11.ro hPb.fr.size (fun k hk => List.mem_append_left _ (List.mem_append_right _ (by simp [ob] at hk; simp [hk]))) hrt10.out)
    have hRa := K11.ro hPb.fr.size (fun k hk => List.mem_append_right _ (List.mem_append_right _ hk)) RA.out.1
    have D11 : Hid (Kd ((b4 :: b6 :: c :: (c + 1) :: (ob sh ++ ob sx)) ++ [b11, b12, gT, D]) m2.F W11) := (fun k hk => ⟨Nat.lt_of_lt_of_le (D10.out k (List.mem_append_left _ hk)).1 hPb.fr.size, (D10.out k (List.mem_append_left _ hk)).2⟩)
    obtain ⟨hRR, _⟩ := HAA.out.same G4.out.ok hAb hE3.out hGt.out.ok
    have hRb := hPb.ro
    have hlb := hPb.ln
    rw [← hRR] at hRb hlb
    have hll : rla = rlb := HLA.out.symm.trans hlb
    subst hll
    replace hRa := hide hRa
    replace hRb := hide hRb
    clear hPb hAb hRR hlb D10t K11 RA HAA D10 L10 F10 Q10 S10 T10 z11 z12 hrt10 hT9s hact3 hdt hE3 hGt HQ HQ11 hmw htl hsl9 hrlb
    gi_wp2
    refine wpIn_wide.2 ?_
    go_loopg [19] 200 (fun kx s19 wr => ∃ i : Nat, s19 = .int .i64 (i : Int) ∧ i ≤ rla ∧ rla - i ≤ kx ∧ Hid (Bel W11 wr))
    case atStart => exact ⟨0, rfl, Nat.zero_le _, by omega, bl_refl _⟩
    case round =>
      obtain ⟨i, rfl, hi, hikx, hbw⟩ := hrel
      by_cases hlt : i < rla
      · have hz : (i : Int) < (rla : Int) := by omega
        have ewi : IntKind.wrap .i64 ((i : Int) + 1) = (i : Int) + 1 := by rw [IntKind.wrap_i64]; omega
        obtain ⟨⟨a, b⟩, hab⟩ := get_of_lt (l := Ra) (i := i) (by have := HLA.out; omega)
        obtain ⟨ga, rfl, _, _, rwa_, _⟩ := hRa.out.at (by omega)
        obtain ⟨gb, rfl, _, _, rwb_, _⟩ := hRb.out.at (by omega)
        have y0 := keep hbw.out (rwa_ _ _ (hRow_get _ i a b hab).1)
        have y1 := keep hbw.out (rwa_ _ _ (hRow_get _ i a b hab).2)
        have y2 := keep hbw.out (rwb_ _ _ (hRow_get _ i a b hab).1)
        have y3 := keep hbw.out (rwb_ _ _ (hRow_get _ i a b hab).2)
        rw [Nat.zero_add] at y0 y1 y2 y3
        clear rwa_ rwb_ hab
        go_wp2
        go_quiet (fail)
        go_wp2
        go_roundg (rla - (i + 1))
        case measure => omega
        case rel => exact ⟨i + 1, by go_num, by omega, Nat.le_refl _, bl_drewN hbw.out _⟩
      · have hz : ¬ (i : Int) < (rla : Int) := by omega
        go_wp2
        have bK := st_bel (W := wr) #[.int .i64 0] 3
        have bW := bl_trans hbw.out bK
        have c20 : (wr.alloc (.cells #[.int .i64 0] 3)).cell? ⟨wr.heap.size, 0, none⟩ = some (.int .i64 0) := by rw [World.cell?_alloc_new]; rfl
        have f20 : (wr.alloc (.cells #[.int .i64 0] 3)).frozen? ⟨wr.heap.size, 0, none⟩ = false := (bK.2 _).trans (fr_frozen (Nat.le_refl _))
        have D12 := hide (D11.out.low bW.1).1
        have K12 := (D11.out.low bW.1).2
        have F12 := hide (F11.out.kh K12 (by simp) (by simp))
        have Q12 := hide (Q11.out.kh K12 bW.size (fun i hi => List.mem_append_left _ (by simp only [List.mem_cons] at hi ⊢; exact .inr (.inr hi))))
        have S12 := hide (S11.out.bel bW)
        have L12 := hide (L11.out.trans (bW.1.mono L11.out.size))
        have dd12 := (K12 D (List.mem_append_right _ (by simp))).trans dd11
        have v11 := keep bW y11
        have v12 := keep bW y12
        have hrt12 := hide (hrt11.out.bel bW)
        have hbS : wr.heap.size < (wr.alloc (.cells #[.int .i64 0] 3)).heap.size := by simp
        have hbw2 : w.heap.size ≤ wr.heap.size := Nat.le_trans L11.out.size hbw.out.size
        have hbK : wr.heap.size ∉ ((b4 :: b6 :: c :: (c + 1) :: (ob sh ++ ob sx)) ++ [b11, b12, gT, D]) := fun hk => by have h1 := (D11.out _ hk).1; have h2 := hbw.out.size; omega
        have hbm : wr.heap.size ∉ m2.F := fun hk => by have h1 := S11.out.sz _ hk; have h2 := hbw.out.size; omega
        obtain ⟨b20, hb20⟩ : ∃ x, x = wr.heap.size := ⟨_, rfl⟩
        obtain ⟨WS, hWS⟩ : ∃ x, x = (wr.alloc (.cells #[.int .i64 0] 3)) := ⟨_, rfl⟩
        rw [← hWS] at c20 f20 D12 F12 Q12 S12 L12 v11 v12 hrt12 hbS dd12
        rw [← hb20] at c20 f20 hbS hbw2 hbK hbm
        have hG2 := G10.out.ok
        have R0 : Hid (Rg w WS ((b4 :: b6 :: c :: (c + 1) :: (ob sh ++ ob sx)) ++ [b11, b12, gT, D]) b20 p 0 WS m2 s2) := (⟨S12.out, hG2, HP10.out, fun _ => S12.out.sz, c20, f20, (fun i hi => by
          rcases List.mem_cons.1 hi with rfl | hi
          · exact ⟨hbS, hbm⟩
          · exact D12.out i hi), fun i _ => rfl, L12.out, M10.out, Nat.le_refl _⟩ : Rg w WS ((b4 :: b6 :: c :: (c + 1) :: (ob sh ++ ob sx)) ++ [b11, b12, gT, D]) b20 p 0 WS m2 s2)
        have hKl : ∀ i, i ∈ b20 :: ((b4 :: b6 :: c :: (c + 1) :: (ob sh ++ ob sx)) ++ [b11, b12, gT, D]) → i < WS.heap.size := fun i hi => (R0.out.kd i hi).1
        have huo : Hid (∀ u ∈ s1.U, u ≤ 4294967295) := G4.out.ok.uo
        have hnd : Hid ((E.map (·.1.1)).Nodup) := by rw [HE.out]; exact enE_nodup s1 N
        gi_wp2
        rw [← hWS, ← hb20]
        clear hWS hb20 bK bW K12 hbw D11 F11 Q11 S11 L11 y11 y12 hrt11 hRa hRb HLA
        refine range_X (α := { x : El // x ∈ E }) Subtype.val (po := 21) (qo := 22) (by decide) rfl (enters_of Try.func33 (by kernel_rfl) rfl) (c :: (c + 1) :: (ob sh ++ ob sx)) n E.attach (all_stopsGA Subtype.val E.attach _ c n sh sx ch cx E WS (List.attach_map_subtype_val E) hEn.out (by omega) Q12.out.xc Q12.out.xd Q12.out.rh Q12.out.rx) (fun k hk => hKl k (List.mem_cons_of_mem _ (List.mem_append_left _ (by simp only [List.mem_cons] at hk ⊢; exact .inr (.inr hk)))))
          (Xb p) (fun bx X Y row hx hg hr => hx.grown hg hr) (fun pre W => ∃ m s, Rg w WS ((b4 :: b6 :: c :: (c + 1) :: (ob sh ++ ob sx)) ++ [b11, b12, gT, D]) b20 p pre.length W m s) ?hI2 ?h02 ?hassign2 ?hbody2 ?hdone2
        case hI2 =>
          rintro pre X Y row ⟨m, s, h⟩ hg hr
          exact ⟨m, s, h.grown hKl L12.out.size hg hr⟩
        case h02 => exact ⟨m2, s2, R0.out⟩
        case hassign2 =>
          rintro l pre x W K ⟨m, s, h⟩ hK
          simp only [List.setIfInBounds_toArray, List.set_cons_zero, List.set_cons_succ] at hK ⊢
          gi_wp2
          have hbx := st_bel (W := W) #[.int .u32 (x.1.1.1 : Int), .int .u32 (x.1.1.2 : Int)] 29
          exact hK W.heap.size _ (KeepsFrom.of_bel hbx) (fun k hk o => hbx.1.cell (p := ⟨k, o, none⟩) (Nat.lt_of_lt_of_le (hKl k (List.mem_cons_of_mem _ (List.mem_append_left _ (by simp only [List.mem_cons] at hk ⊢; exact .inr (.inr hk))))) h.sz)) ⟨m, s, h.low hbx.1⟩ (by rw [World.cell?_alloc_new]; rfl) (by rw [World.cell?_alloc_new]; rfl) (Xb.new h.st h.hp hbx)
        case hbody2 =>
          rintro l pre ⟨⟨⟨k, u⟩, v⟩, hx⟩ bx W ⟨m, s, h⟩ x0 x1 hZ hlen
          simp only [List.setIfInBounds_toArray, List.set_cons_zero, List.set_cons_succ] at x0 x1 ⊢
          have hxE : ((k, u), v) ∈ enE s1 N := by rw [← HE.out]; exact hx
          have hkN : k < N := enE_lt s1 N ((k, u), v) hxE
          have huu : u < 4294967296 := by have h1 := enE_use s1 N ((k, u), v) hxE; have h2 := getD_le huo.out k; simp only at h1; omega
          obtain ⟨j, hj⟩ : ∃ j, j = pre.length := ⟨_, rfl⟩
          rw [← hj] at h hlen
          have HJ := hide hj
          clear hj
          have hz1 : ¬ (N : Int) ≤ (k : Int) := by omega
          have hz2 : (k : Int) < (N : Int) := by omega
          have hz3 : ¬ (n : Int) ≤ (j : Int) := by omega
          have ew1 : IntKind.wrap .i64 (k : Int) = (k : Int) := by rw [IntKind.wrap_i64]; omega
          have ew2 : IntKind.wrap .i64 ((j : Int) + 1) = (j : Int) + 1 := by rw [IntKind.wrap_i64]; omega
          have y11 := h.kh.cell (k := b11) (List.mem_append_right _ (by simp)) v11
          have y12 := h.kh.cell (k := b12) (List.mem_append_right _ (by simp)) v12
          have hrtW := h.kh.ro h.sz (fun i hi => List.mem_append_right _ (by simp [ob] at hi; simp [hi])) hrt12.out
          have yk := hrtW.cell (ttF_get N E hnd.out ((k, u), v) hx hkN)
          simp only at yk
          have y20 := h.cb
          have FW := F12.out.kh h.kh (by simp) (by simp)
          have c6 := FW.c6
          have hput := put_anyI h.st h.ok h.hp 9
          have hoff := hZ.off h.st h.hp
          have HH := hide h
          have FWH := hide FW
          clear h hrtW FW
          gi_wp2
          refine ⟨trivial, (callsIn_wide.2 hput).mono ?_⟩
          rintro e V1 ⟨v1, m', s', rfl, hp', hS', ho', hU', hf'⟩
          have H2 := hide (HH.out.sto hS' ho' hp' (fun e => absurd e hU') hf')
          have KF1 := hide (HH.out.kf hf')
          replace x0 := hf'.cell hoff x0
          replace x1 := hf'.cell hoff x1
          have c6b := (F12.out.kh H2.out.kh (by simp) (by simp)).c6
          have htk := take_anyI H2.out.st H2.out.ok hp' k u (by omega) huu
          replace hp' := hide hp'
          clear hS' ho' hf' hput c6 FWH y11 y12 y20 yk hZ hoff
          gi_wp2
          refine ⟨trivial, (callsIn_wide.2 htk).mono ?_⟩
          rintro e V2 ⟨v2, s3, rfl, hS3, ho3, hU3, hf3⟩
          have H3 := H2.out.sto hS3 ho3 hp'.out (fun e => absurd (hU3.symm.trans e) hU') hf3
          have KF2 := H2.out.kf hf3
          have y20 := H3.cb
          have g20 := H3.fb
          obtain ⟨H4, KF3⟩ := H3.cnt hbK hbw2 hbS (c := (j : Int) + 1) (by omega)
          have HR : Hid (ownPostG WS.heap.size (KpL (c :: (c + 1) :: (ob sh ++ ob sx))) (fun (pre : List { x : El // x ∈ E }) W => ∃ m s, Rg w WS ((b4 :: b6 :: c :: (c + 1) :: (ob sh ++ ob sx)) ++ [b11, b12, gT, D]) b20 p pre.length W m s) (fun _ _ _ => False) (pre ++ [⟨((k, u), v), hx⟩]) W .normal ⟨#[], []⟩ (V2.setCell ⟨b20, 0, none⟩ (.int .i64 ((j : Int) + 1)))) :=
            ⟨(KF1.out.trans KF2).trans KF3, fun i hi o => heap_cell_eq ((H4.kh i (List.mem_append_left _ (by simp only [List.mem_cons] at hi ⊢; exact .inr (.inr hi)))).trans (HH.out.kh i (List.mem_append_left _ (by simp only [List.mem_cons] at hi ⊢; exact .inr (.inr hi)))).symm) o, m', s3, by rw [List.length_append, ← HJ.out]; exact H4⟩
          clear H3 KF2 H4 KF3 hS3 ho3 hf3 htk c6b x0 x1
          gi_wp2
          exact HR.out
        case hdone2 =>
          rintro D2 W hDw2 ⟨m, s, h⟩ hdd2
          have hlen : E.attach.length = n := by rw [List.length_attach]; exact hEn.out
          rw [hlen] at h
          have y20 := h.cb
          have y12 := h.kh.cell (k := b12) (List.mem_append_right _ (by simp)) v12
          have FW := F12.out.kh h.kh (by simp) (by simp)
          obtain ⟨u4, r4⟩ := FW.r4
          have f4 := FW.f4
          have dd := (h.kh D (List.mem_append_right _ (by simp))).trans dd12
          have hDS : D < WS.heap.size := hKl D (List.mem_cons_of_mem _ (List.mem_append_right _ (by simp)))
          have hb4S : b4 < WS.heap.size := hKl b4 (by simp)
          have hlo := hide h.lo
          have c4 : (W.setCell ⟨b4, 0, none⟩ (.bool true)).cell? ⟨b4, 0, none⟩ = some (.bool true) := World.cell?_setCell_same' _ _ _ (by rw [r4]; rfl)
          have dz1 : (W.setCell ⟨b4, 0, none⟩ (.bool true)).heap[D]? = some (.deferred (some [])) := (Below.heap_setCell W _ _ D (fun e => hb4D e.symm)).trans dd
          have dz2 : (W.setCell ⟨b4, 0, none⟩ (.bool true)).heap[D2]? = some (.deferred (some [])) := (Below.heap_setCell W _ _ D2 (show D2 ≠ b4 by omega)).trans hdd2
          have hzz := (hlo.out.setCell (p := ⟨b4, 0, none⟩) hb4w (.bool true))
          replace hzz := hide hzz
          have hnD : D2 ≠ D := by omega
          have hwS := L12.out.size
          clear h FW hlo dd hdd2 hdd
          gi_wp2
          have hDww : w.heap.size ≤ D := hDw7
          refine leaves_marks _ [D2, D] _ rfl (by simp [hnD]) (fun Z hZ => by
            simp only [List.mem_cons, List.not_mem_nil, or_false] at hZ
            rcases hZ with rfl | rfl
            · exact dz2
            · exact dz1) (fun W' hS => ?_)
          have hc4 := (heap_cell_eq (hS.block b4 (by simp only [List.mem_cons, List.not_mem_nil, or_false]; omega)) 0).trans c4
          refine ⟨.bool true, ?_, rfl, ⟨hS.os.trans hzz.out.os, hS.tape.trans hzz.out.tape, hS.output.trans hzz.out.output, Nat.le_trans hzz.out.size (Nat.le_of_eq hS.size.symm), fun k hk => (hS.block k (by simp only [List.mem_cons, List.not_mem_nil, or_false]; omega)).trans (hzz.out.block k hk)⟩⟩
          simp [results, Try.results4, go_sem, hc4]

end Go.Proofs.Ytnfhedmlifjlmaa
