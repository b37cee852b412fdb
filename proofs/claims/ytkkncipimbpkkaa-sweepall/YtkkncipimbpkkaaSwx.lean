/-
  What each function of package sweep answers, and what the reference of its chapter answers: one contract a function, for every list of boxes; of the memory that was there nothing has turned.
-/
import Derived.Test.YtkkncipimbpkkaaSww
import Derived.Test.YtkkncipimbpkkaaSwi
import Derived.Laws.StructEq
import Derived.Below
import Derived.BigQuiet
import Derived.OwnWalk
import Derived.Laws.AppendOwn
import Derived.Laws.AppendOwnNone
import Derived.WalkKit
import Derived.WalkLawsBesides
import Derived.WalkSpells
import Derived.ProofKit
import Derived.OpenShut
import Derived.Deep.RegionHeld3
import Derived.Deep.LoopGhost
namespace Go.Proofs.Ytkkncipimbpkkaa
open Go.ChangeShapes Go.WideShapes Go.ChangeAt Go.RowKit Go.Shelf Go.Lib Go.Sort
set_option linter.unusedVariables false
set_option linter.unusedSimpArgs false


theorem set_as2 {w : World} {g i j : Nat} {v u : Value} (h : w.cell? ⟨g, j, none⟩ = some u) (hij : j ≠ i) : (w.setCell ⟨g, i, none⟩ v).cell? ⟨g, j, none⟩ = some u := (World.cell?_setCell_other _ _ _ _ (by intro e'; injection e' with _ e2 _; exact hij e2.symm)).trans h
set_option maxRecDepth 100000 in
set_option maxHeartbeats 16000000 in
theorem apart_s (sa sb : Option Addr) (n ca cb bA bB B0 : Nat) (RA0 RB0 : List Value) (w : World) (hA0 : OwnR 2 bA w (Value.slice sa n ca) n RA0) (hB0 : OwnR 2 bB w (Value.slice sb n cb) n RB0) (HA : n = 0 ∨ ∃ g, sa = some ⟨g, 0, none⟩ ∧ g < w.heap.size) (HB : n = 0 ∨ ∃ g, sb = some ⟨g, 0, none⟩ ∧ g < w.heap.size) (HZ : n = 0 → sa = none ∧ sb = none) (hD : ∀ g g', sa = some ⟨g, 0, none⟩ → sb = some ⟨g', 0, none⟩ → g ≠ g') (hbA : B0 ≤ bA) (hbB : B0 ≤ bB) (hsA : bA ≤ w.heap.size) (hsB : bB ≤ w.heap.size) (hn : n ≤ 65536) :
    Calls Try.prog 19 #[.slice sa n ca, .slice sb n cb] w fun e w' => e = .returned (.bool true) ∧ Below B0 w w' := by
  have qA := fun (a b c e : Int) (w : World) => run_equalIn_arr 9998 a b c e w
  have qG := eqg_pair
  go_enter Try.func19, Try.ntmps19
  go_wp2
  go_loopg [5] n (fun kx sl wr => ∃ (k : Nat) (R : List Value), sl = .int .i64 k ∧ k ≤ n ∧ n - k ≤ kx ∧ OwnR 2 bA wr (Value.slice sa n ca) n R ∧ OwnR 2 bB wr (Value.slice sb n cb) n RB0 ∧ Below B0 w wr ∧ Hid (wr.heap.size = w.heap.size) ∧ Hid (Fil (-1) k R))
  case atStart => exact ⟨0, RA0, rfl, Nat.zero_le _, Nat.le_refl _, hA0, hB0, Below.refl _ _, rfl, fun i hi => by omega⟩
  case round =>
    obtain ⟨k, R, rfl, hk, hkx, hO, hP, hLw, hsz, hF⟩ := hrel
    by_cases hlt : k < n
    · have hmes : n - (k + 1) < gk := by omega
      have hltz : (k : Int) < (n : Int) := by omega
      have hwk : IntKind.wrap .i64 ((k : Int) + 1) = (k : Int) + 1 := by rw [IntKind.wrap_i64]; omega
      obtain ⟨g, hs⟩ : ∃ g, sa = some ⟨g, 0, none⟩ := by
        rcases HA with h | ⟨g, h, _⟩
        · omega
        · exact ⟨g, h⟩
      have hne : ∀ gg cp, (Value.slice sb n cb) = Value.slice (some ⟨gg, 0, none⟩) n cp → gg ≠ g := fun gg cp e => by
        injection e with e1 _ _
        exact fun e2 => hD g gg hs e1 e2.symm
      have HNE : Hid _ := hne
      clear hne
      subst hs
      obtain ⟨p1, p2, p3, p4, p5, p6⟩ := own_parts hO
      obtain ⟨u0, hu0⟩ := Option.isSome_iff_exists.1 (p5 (k * 2) (by omega))
      obtain ⟨u1, hu1⟩ := Option.isSome_iff_exists.1 (p5 (k * 2 + 1) (by omega))
      have f0 := p6 (k * 2)
      have f1 := p6 (k * 2 + 1)
      have hu2 := set_as2 (v := .int .i64 (-1)) hu1 (show k * 2 + 1 ≠ k * 2 by omega)
      have f2 : (wr.setCell ⟨g, k * 2, none⟩ (.int .i64 (-1))).frozen? ⟨g, k * 2 + 1, none⟩ = false := (World.frozen?_setCell _ _ _ _).trans f1
      have HO5 : Aside _ := own_setK (own_setK hO (i := k * 2) (v := .int .i64 (-1)) (by omega)) (i := k * 2 + 1) (v := .int .i64 (k : Int)) (by omega)
      have HP5 : Aside _ := own_as (own_as hP (fun gg cp e o u hu => set_as (g := g) (i := k * 2) (v := .int .i64 (-1)) (HNE.out gg cp e) hu) (fun c o => World.frozen?_setCell _ _ _ _)) (fun gg cp e o u hu => set_as (g := g) (i := k * 2 + 1) (v := .int .i64 (k : Int)) (HNE.out gg cp e) hu) (fun c o => World.frozen?_setCell _ _ _ _)
      have HL5 : Aside _ := (hLw.setCell (p := ⟨g, k * 2, none⟩) (show B0 ≤ g by omega) (.int .i64 (-1))).setCell (p := ⟨g, k * 2 + 1, none⟩) (show B0 ≤ g by omega) (.int .i64 (k : Int))
      have HF5 : Aside _ := hF.out.step hO.1 hlt
      clear p4 p5 p6 hO hP hLw
      go_wp2
      go_roundg (n - (k + 1))
      case measure => exact hmes
      case rel => exact ⟨k + 1, _, by go_num, by omega, Nat.le_refl _, HO5.out, HP5.out, HL5.out, (show _ = _ from by rw [World.size_setCell, World.size_setCell]; exact hsz.out), HF5.out⟩
    · have hltz : ¬ (k : Int) < (n : Int) := by omega
      have hkn : n = k := by omega
      subst hkn
      have hA1 := hO
      have hB1 := hP
      have hL1 := hLw
      have hS1 := hsz
      have hF1 := hF
      obtain ⟨RA, hRA⟩ : ∃ X, R = X := ⟨_, rfl⟩
      rw [hRA] at hA1 hF1
      clear hO hP hLw hsz hF hRA
      obtain ⟨w1, hw1⟩ : ∃ X, X = wr := ⟨_, rfl⟩
      subst hw1
      go_wp2
      go_loopg [6] n (fun kx sl wr => ∃ (k : Nat) (R : List Value), sl = .int .i64 k ∧ k ≤ n ∧ n - k ≤ kx ∧ OwnR 2 bB wr (Value.slice sb n cb) n R ∧ OwnR 2 bA wr (Value.slice sa n ca) n RA ∧ Below B0 w wr ∧ Hid (wr.heap.size = w.heap.size) ∧ Hid (Fil (-2) k R))
      case atStart => exact ⟨0, RB0, rfl, Nat.zero_le _, Nat.le_refl _, hB1, hA1, hL1, hS1, fun i hi => by omega⟩
      case round =>
        obtain ⟨k, R, rfl, hk, hkx, hO, hP, hLw, hsz, hF⟩ := hrel
        by_cases hlt : k < n
        · have hmes : n - (k + 1) < gk := by omega
          have hltz : (k : Int) < (n : Int) := by omega
          have hwk : IntKind.wrap .i64 ((k : Int) + 1) = (k : Int) + 1 := by rw [IntKind.wrap_i64]; omega
          obtain ⟨g, hs⟩ : ∃ g, sb = some ⟨g, 0, none⟩ := by
            rcases HB with h | ⟨g, h, _⟩
            · omega
            · exact ⟨g, h⟩
          have hne : ∀ gg cp, (Value.slice sa n ca) = Value.slice (some ⟨gg, 0, none⟩) n cp → gg ≠ g := fun gg cp e => by
            injection e with e1 _ _
            exact hD gg g e1 hs
          have HNE : Hid _ := hne
          clear hne
          subst hs
          obtain ⟨p1, p2, p3, p4, p5, p6⟩ := own_parts hO
          obtain ⟨u0, hu0⟩ := Option.isSome_iff_exists.1 (p5 (k * 2) (by omega))
          obtain ⟨u1, hu1⟩ := Option.isSome_iff_exists.1 (p5 (k * 2 + 1) (by omega))
          have f0 := p6 (k * 2)
          have f1 := p6 (k * 2 + 1)
          have hu2 := set_as2 (v := .int .i64 (-2)) hu1 (show k * 2 + 1 ≠ k * 2 by omega)
          have f2 : (wr.setCell ⟨g, k * 2, none⟩ (.int .i64 (-2))).frozen? ⟨g, k * 2 + 1, none⟩ = false := (World.frozen?_setCell _ _ _ _).trans f1
          have HO5 : Aside _ := own_setK (own_setK hO (i := k * 2) (v := .int .i64 (-2)) (by omega)) (i := k * 2 + 1) (v := .int .i64 (k : Int)) (by omega)
          have HP5 : Aside _ := own_as (own_as hP (fun gg cp e o u hu => set_as (g := g) (i := k * 2) (v := .int .i64 (-2)) (HNE.out gg cp e) hu) (fun c o => World.frozen?_setCell _ _ _ _)) (fun gg cp e o u hu => set_as (g := g) (i := k * 2 + 1) (v := .int .i64 (k : Int)) (HNE.out gg cp e) hu) (fun c o => World.frozen?_setCell _ _ _ _)
          have HL5 : Aside _ := (hLw.setCell (p := ⟨g, k * 2, none⟩) (show B0 ≤ g by omega) (.int .i64 (-2))).setCell (p := ⟨g, k * 2 + 1, none⟩) (show B0 ≤ g by omega) (.int .i64 (k : Int))
          have HF5 : Aside _ := hF.out.step hO.1 hlt
          clear p4 p5 p6 hO hP hLw
          go_wp2
          go_roundg (n - (k + 1))
          case measure => exact hmes
          case rel => exact ⟨k + 1, _, by go_num, by omega, Nat.le_refl _, HO5.out, HP5.out, HL5.out, (show _ = _ from by rw [World.size_setCell, World.size_setCell]; exact hsz.out), HF5.out⟩
        · have hltz : ¬ (k : Int) < (n : Int) := by omega
          have hkn : n = k := by omega
          subst hkn
          have hB2 := hO
          have hA2 := hP
          have hL2 := hLw
          have hS2 := hsz
          have hF2 := hF
          obtain ⟨RB, hRB⟩ : ∃ X, R = X := ⟨_, rfl⟩
          rw [hRB] at hB2 hF2
          clear hO hP hLw hsz hF hRB
          obtain ⟨w2, hw2⟩ : ∃ X, X = wr := ⟨_, rfl⟩
          subst hw2
          have z2 : w2.heap.size = w.heap.size := hS2.out
          have HZ2 : Hid _ := z2
          go_wp2
          go_loopg [7, 9] 20 (fun kx s7 s9 wr => ∃ t : Nat, s9 = .int .i64 t ∧ t ≤ 20 ∧ 20 - t ≤ kx ∧ OwnR 2 bA wr s7 (n + t) (RA ++ tl2 (-3) t) ∧ OwnR 2 bB wr (Value.slice sb n cb) n RB ∧ Below B0 w wr ∧ w.heap.size ≤ wr.heap.size ∧ Hid (∀ g, sa = some ⟨g, 0, none⟩ → Rw wr g 0 RA) ∧ Hid (∀ gg n' c', s7 = Value.slice (some ⟨gg, 0, none⟩) n' c' → gg < wr.heap.size ∧ (∀ g', sb = some ⟨g', 0, none⟩ → gg ≠ g')))
          case atStart =>
            refine ⟨0, rfl, by omega, by omega, by rw [Nat.add_zero, show tl2 (-3) 0 = [] from rfl, List.append_nil]; exact hA2, hB2, hL2, by omega, fun g e => ?_, fun gg n' c' e => ?_⟩
            · rw [e] at hA2; exact (own_parts hA2).2.2.2.1
            · injection e with e1 _ _
              refine ⟨?_, fun g' e2 => hD gg g' e1 e2⟩
              rcases HA with h | ⟨g, h, hg⟩
              · rw [(HZ h).1] at e1; cases e1
              · rw [h] at e1
                injection e1 with e1
                injection e1 with e1 _ _
                omega
          case round =>
            clear hA2 hB2 hL2
            obtain ⟨t, rfl, ht, htx, hX, hP, hLw, hsz, hR, hG⟩ := hrel
            by_cases hlt : t < 20
            · have hmes : 20 - (t + 1) < gk := by omega
              have hltz : (t : Int) < 20 := by omega
              have hwk : IntKind.wrap .i64 ((t : Int) + 1) = (t : Int) + 1 := by rw [IntKind.wrap_i64]; omega
              have hO' := hX.bel (bl_alloc (bl_refl wr) #[.int .i64 (-3), .int .i64 (t : Int)] 46)
              obtain ⟨v7, hv7⟩ : ∃ x, x = u7 := ⟨_, rfl⟩
              go_wp2_with (first | (at_builtin; refine wpList_appT (P := Try.prog) (sz := 2) (by_ := 16) (R := RA ++ tl2 (-3) t) (N := [.int .i64 (-3), .int .i64 (t : Int)]) 29 46 rfl _ _ rfl Try.underlying29 info_pair rfl rfl _ 0 1 1 rfl hO' rfl (mk_rw _ [.int .i64 (-3), .int .i64 (t : Int)] 46) (by intro u hu; simp only [List.mem_cons, List.not_mem_nil, or_false] at hu; rcases hu with rfl | rfl <;> rfl) (by decide) (by simp only [World.size_alloc]; omega) (by unfold maxLen; omega) (by omega) ?_; intro v2 wx hO4 hv2 hbX hoth hlow hold hfrz; obtain ⟨g6, c6, rfl, hg6⟩ := hv2; have L3 := (hLw.alloc (show B0 ≤ wr.heap.size by omega) (.cells #[.int .i64 (-3), .int .i64 (t : Int)] 46)).trans (hlow B0 hbA); have hs5 := hoth.2; simp only [World.size_alloc] at hs5))
              go_roundg (20 - (t + 1))
              case measure => exact hmes
              case rel =>
                have hszA : wr.heap.size + 1 = (wr.alloc (.cells #[.int .i64 (-3), .int .i64 (t : Int)] 46)).heap.size := (World.size_alloc _ _).symm
                refine ⟨t + 1, by go_num, by omega, Nat.le_refl _, by rw [tl2_succ, ← List.append_assoc]; exact hO4, ?_, L3, by omega, fun g e => ?_, fun gg n' c' e => ?_⟩
                · refine own_as (hP.bel (bl_alloc (bl_refl wr) _ _)) (fun gg cp e o u hu => ?_) hfrz
                  injection e with e1 _ _
                  have hgl := World.block_lt_of_cell? _ _ hu
                  rw [hoth.1 gg o hgl (fun g5 c5 e5 => Ne.symm ((hG.out g5 _ c5 e5).2 gg e1))]
                  exact hu
                · by_cases hsame : ∃ cp, u7 = Value.slice (some ⟨g, 0, none⟩) (n + t) cp
                  · obtain ⟨cp, hcp⟩ := hsame
                    exact (hold g cp hcp).left
                  · intro j u hj
                    have hcell := keepB (bl_alloc (bl_refl wr) #[.int .i64 (-3), .int .i64 (t : Int)] 46) (hR.out g e j u hj)
                    rw [hoth.1 g _ (World.block_lt_of_cell? _ _ hcell) (fun g5 c5 e5 e6 => hsame ⟨c5, by rw [e6]; exact e5⟩)]
                    exact hcell
                · injection e with e1 _ _
                  injection e1 with e1
                  injection e1 with e1 _ _
                  subst e1
                  rcases own_split hO4 (by decide) with ⟨h0, _⟩ | ⟨_, g', c', e, _, h2, _⟩
                  · omega
                  · injection e with e1 _ _
                    injection e1 with e1
                    injection e1 with e1 _ _
                    subst e1
                    refine ⟨h2, fun g' e2 e3 => ?_⟩
                    rcases hg6 with h6 | ⟨cp6, h6⟩
                    · rcases HB with h | ⟨g5, h, hg⟩
                      · rw [(HZ h).2] at e2; cases e2
                      · rw [h] at e2
                        injection e2 with e2
                        injection e2 with e2 _ _
                        omega
                    · exact (hG.out _ _ _ h6).2 g' e2 e3
            · have hltz : ¬ (t : Int) < 20 := by omega
              have htt : t = 20 := by omega
              subst htt
              obtain ⟨vx, hvx⟩ : ∃ x, u7 = x := ⟨_, rfl⟩
              rw [hvx] at hX hG ⊢
              clear hvx
              have hX3 := hX
              have hP3 := hP
              have hL3 := hLw
              have hS3 := hsz
              have hR3 := hR
              have hG3 := hG
              clear hX hP hLw hsz hR hG
              obtain ⟨w3, hw3⟩ : ∃ X, X = wr := ⟨_, rfl⟩
              subst hw3
              go_wp2
              go_loopg [8, 10] 20 (fun kx s8 s10 wr => ∃ t : Nat, s10 = .int .i64 t ∧ t ≤ 20 ∧ 20 - t ≤ kx ∧ OwnR 2 bB wr s8 (n + t) (RB ++ tl2 (-4) t) ∧ OwnR 2 bA wr vx (n + 20) (RA ++ tl2 (-3) 20) ∧ Below B0 w wr ∧ w3.heap.size ≤ wr.heap.size ∧ Hid (∀ g, sa = some ⟨g, 0, none⟩ → Rw wr g 0 RA) ∧ Hid (∀ gg n' c', s8 = Value.slice (some ⟨gg, 0, none⟩) n' c' → gg < wr.heap.size ∧ (∀ gx nx cx, vx = Value.slice (some ⟨gx, 0, none⟩) nx cx → gg ≠ gx) ∧ (∀ g, sa = some ⟨g, 0, none⟩ → gg ≠ g)))
              case atStart =>
                refine ⟨0, rfl, by omega, by omega, by rw [Nat.add_zero, show tl2 (-4) 0 = [] from rfl, List.append_nil]; exact hP3, hX3, hL3, Nat.le_refl _, hR3, fun gg n' c' e => ?_⟩
                injection e with e1 _ _
                refine ⟨?_, fun gx nx cx e2 => Ne.symm ((hG3.out gx nx cx e2).2 gg e1), fun g e2 => Ne.symm (hD g gg e2 e1)⟩
                rcases HB with h | ⟨g, h, hg⟩
                · rw [(HZ h).2] at e1; cases e1
                · rw [h] at e1
                  injection e1 with e1
                  injection e1 with e1 _ _
                  omega
              case round =>
                clear hX3 hP3 hL3 hR3
                obtain ⟨t, rfl, ht, htx, hX, hP, hLw, hsz, hR, hG⟩ := hrel
                by_cases hlt : t < 20
                · have hmes : 20 - (t + 1) < gk := by omega
                  have hltz : (t : Int) < 20 := by omega
                  have hwk : IntKind.wrap .i64 ((t : Int) + 1) = (t : Int) + 1 := by rw [IntKind.wrap_i64]; omega
                  have hO' := hX.bel (bl_alloc (bl_refl wr) #[.int .i64 (-4), .int .i64 (t : Int)] 46)
                  go_wp2_with (first | (at_builtin; refine wpList_appT (P := Try.prog) (sz := 2) (by_ := 16) (R := RB ++ tl2 (-4) t) (N := [.int .i64 (-4), .int .i64 (t : Int)]) 29 46 rfl _ _ rfl Try.underlying29 info_pair rfl rfl _ 0 1 1 rfl hO' rfl (mk_rw _ [.int .i64 (-4), .int .i64 (t : Int)] 46) (by intro u hu; simp only [List.mem_cons, List.not_mem_nil, or_false] at hu; rcases hu with rfl | rfl <;> rfl) (by decide) (by simp only [World.size_alloc]; omega) (by unfold maxLen; omega) (by omega) ?_; intro v2 wx hO4 hv2 hbX hoth hlow hold hfrz; obtain ⟨g6, c6, rfl, hg6⟩ := hv2; have L3 := (hLw.alloc (show B0 ≤ wr.heap.size by omega) (.cells #[.int .i64 (-4), .int .i64 (t : Int)] 46)).trans (hlow B0 hbB); have hs5 := hoth.2; simp only [World.size_alloc] at hs5))
                  go_roundg (20 - (t + 1))
                  case measure => exact hmes
                  case rel =>
                    refine ⟨t + 1, by go_num, by omega, Nat.le_refl _, by rw [tl2_succ, ← List.append_assoc]; exact hO4, ?_, L3, by omega, fun g e => ?_, fun gg n' c' e => ?_⟩
                    · refine own_as (hP.bel (bl_alloc (bl_refl wr) _ _)) (fun gg cp e o u hu => ?_) hfrz
                      have hgl := World.block_lt_of_cell? _ _ hu
                      rw [hoth.1 gg o hgl (fun g5 c5 e5 => Ne.symm ((hG.out g5 _ c5 e5).2.1 gg _ _ e))]
                      exact hu
                    · intro j u hj
                      have hcell := keepB (bl_alloc (bl_refl wr) #[.int .i64 (-4), .int .i64 (t : Int)] 46) (hR.out g e j u hj)
                      rw [hoth.1 g _ (World.block_lt_of_cell? _ _ hcell) (fun g5 c5 e5 => Ne.symm ((hG.out g5 _ c5 e5).2.2 g e))]
                      exact hcell
                    · injection e with e1 _ _
                      injection e1 with e1
                      injection e1 with e1 _ _
                      subst e1
                      rcases own_split hO4 (by decide) with ⟨h0, _⟩ | ⟨_, g', c', e, _, h2, _⟩
                      · omega
                      · injection e with e1 _ _
                        injection e1 with e1
                        injection e1 with e1 _ _
                        subst e1
                        refine ⟨h2, fun gx nx cx e2 e3 => ?_, fun g' e2 e3 => ?_⟩
                        · rcases hg6 with h6 | ⟨cp6, h6⟩
                          · have := (hG3.out gx nx cx e2).1
                            rw [World.size_alloc] at h6
                            omega
                          · exact (hG.out _ _ _ h6).2.1 gx nx cx e2 e3
                        · rcases hg6 with h6 | ⟨cp6, h6⟩
                          · rw [World.size_alloc] at h6
                            rcases HA with h | ⟨g5, h, hg⟩
                            · rw [(HZ h).1] at e2; cases e2
                            · rw [h] at e2
                              injection e2 with e2
                              injection e2 with e2 _ _
                              omega
                          · exact (hG.out _ _ _ h6).2.2 g' e2 e3
                · have hltz : ¬ (t : Int) < 20 := by omega
                  have htt : t = 20 := by omega
                  subst htt
                  obtain ⟨vy, hvy⟩ : ∃ x, u8 = x := ⟨_, rfl⟩
                  rw [hvy] at hX ⊢
                  clear hvy hG hG3
                  rcases own_split hX (by decide) with ⟨h0, _⟩ | ⟨_, gy, cy, rfl, _, _, _⟩
                  · omega
                  rcases own_split hP (by decide) with ⟨h0, _⟩ | ⟨_, gx, cx, rfl, _, _, _⟩
                  · omega
                  have pX := (own_parts hP).2.2.2.1
                  have pY := (own_parts hX).2.2.2.1
                  have lA := hA0.1
                  have lRA : RA.length = n * 2 := by have := hP.1; rw [List.length_append, tl2_len] at this; omega
                  have lRB : RB.length = n * 2 := by have := hX.1; rw [List.length_append, tl2_len] at this; omega
                  have HPX : Hid _ := pX
                  have HPY : Hid _ := pY
                  have HR4 : Hid _ := hR.out
                  clear hX hP pX pY hR lA
                  obtain ⟨w4, hw4⟩ : ∃ X, X = wr := ⟨_, rfl⟩
                  subst hw4
                  go_wp2
                  go_loopg [11] n (fun kx sl wr => ∃ k : Nat, sl = .int .i64 k ∧ k ≤ n ∧ n - k ≤ kx ∧ Bel w4 wr)
                  case atStart => exact ⟨0, rfl, Nat.zero_le _, Nat.le_refl _, bl_refl _⟩
                  case round =>
                    obtain ⟨k, rfl, hk, hkx, hW⟩ := hrel
                    by_cases hlt : k < n
                    · have hmes : n - (k + 1) < gk := by omega
                      have hltz : (k : Int) < (n : Int) := by omega
                      have hwk : IntKind.wrap .i64 ((k : Int) + 1) = (k : Int) + 1 := by rw [IntKind.wrap_i64]; omega
                      obtain ⟨g, hs⟩ : ∃ g, sa = some ⟨g, 0, none⟩ := by
                        rcases HA with h | ⟨g, h, _⟩
                        · omega
                        · exact ⟨g, h⟩
                      have c0 := keepB hW (HR4.out g hs _ _ (hF1.out k hlt).1)
                      have c1 := keepB hW (HR4.out g hs _ _ (hF1.out k hlt).2)
                      rw [Nat.zero_add] at c0 c1
                      subst hs
                      go_wp2
                      go_roundg (n - (k + 1))
                      case measure => exact hmes
                      case rel => exact ⟨k + 1, by go_num, by omega, Nat.le_refl _, hW⟩
                    · have hltz : ¬ (k : Int) < (n : Int) := by omega
                      obtain ⟨w5, hw5⟩ : ∃ X, X = wr := ⟨_, rfl⟩
                      subst hw5
                      have hW5 := hW
                      clear hW
                      go_wp2
                      go_loopg [12] 20 (fun kx sl wr => ∃ k : Nat, sl = .int .i64 k ∧ k ≤ 20 ∧ 20 - k ≤ kx ∧ Bel w4 wr)
                      case atStart => exact ⟨0, rfl, Nat.zero_le _, Nat.le_refl _, hW5⟩
                      case round =>
                        clear hW5
                        obtain ⟨q, rfl, hk2, hkx2, hW⟩ := hrel
                        by_cases hlt2 : q < 20
                        · have hmes : 20 - (q + 1) < gk := by omega
                          have hltz2 : (q : Int) < 20 := by omega
                          have hwk : IntKind.wrap .i64 ((q : Int) + 1) = (q : Int) + 1 := by rw [IntKind.wrap_i64]; omega
                          obtain ⟨m, hm⟩ : ∃ m, m = n + q := ⟨_, rfl⟩
                          have hwm : IntKind.wrap .i64 ((n : Int) + (q : Int)) = (m : Int) := by rw [IntKind.wrap_i64]; omega
                          have hml : (m : Int) < (n : Int) + 20 := by omega
                          have c0 := keepB hW (HPX.out _ _ (app_get lRA hlt2).1)
                          have c1 := keepB hW (HPX.out _ _ (app_get lRA hlt2).2)
                          have d0 := keepB hW (HPY.out _ _ (app_get lRB hlt2).1)
                          have d1 := keepB hW (HPY.out _ _ (app_get lRB hlt2).2)
                          rw [Nat.zero_add, ← hm] at c0 c1 d0 d1
                          clear hm
                          go_wp2
                          go_roundg (20 - (q + 1))
                          case measure => exact hmes
                          case rel => exact ⟨q + 1, by go_num, by omega, Nat.le_refl _, hW⟩
                        · have hltz2 : ¬ (q : Int) < 20 := by omega
                          go_wp2
                          go_ret
                          exact ⟨rfl, hLw.trans (hW.1.mono (show B0 ≤ w4.heap.size by omega))⟩


end Go.Proofs.Ytkkncipimbpkkaa
