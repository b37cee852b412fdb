/-
  'tumblelaw09.ClipSides' is true of all planes and rows of points.
-/
import Derived.Test.YtpedpgpgcmhnoaaRows
import Derived.Test.YtpedpgpgcmhnoaaCy
import Derived.Test.YtpedpgpgcmhnoaaCls
import Derived.WalkKit
import Derived.ProofKit
import Derived.OpenShut
import Derived.WalkLawsBesides
import Derived.WalkSpells
import Derived.Lib.SmallJoins
import Derived.Laws.Cover2
import Derived.Laws.AppendOwn
import Derived.Laws.OwnMore
import Derived.Laws.AppendOwnNone
import Derived.Deep.RegionHeld3
import Derived.Deep.RegionWith
import Derived.Deep.SlicePairs
import Derived.SizedLaws
import Derived.Below
import Derived.Laws.StructEq
namespace Go.Proofs.Ytpedpgpgcmhnoaa.clipSides
open Go.ChangeShapes Go.WideShapes Go.ChangeAt Go.RowKit Go.Joins
set_option linter.unusedVariables false
set_option linter.unusedSimpArgs false

theorem own : ownKnob Try.prog.godebug = none := by kernel_rfl
theorem laidOut : laidOutB Try.prog = true := by kernel_rfl
theorem wf_f64 {x : Nat} (h : (Lit.float .f64 x).wf = true) : okK .f64 x := by
  rw [okK64]; simpa [Lit.wf] using h
theorem trod_fl {H : Type} {enc : TypeId × Value → H} {P : Program} {w : World} {base fuel : Nat} {spare : Nat → Bool} {held : Bool} {t : TypeId} {cs : List Value} {x : DataW H × List MemPlace} {k : FloatKind} (ht : P.underlying t = some (.float k)) (h : DataW.trod enc P w base spare held fuel t cs = some x) : ∃ z, cs = [.float k z] ∧ x = (.lit (.float k z), []) ∧ (Lit.float k z).wf = true := by
  cases fuel with
  | zero => simp [DataW.trod] at h
  | succ n =>
    unfold DataW.trod at h
    rw [ht] at h
    split at h <;> simp_all




theorem new_pts {base : Nat} {w : World} {v : Value} {M : List Pt} (h : NewS base w v M) : ∃ la, v = .slice la M.length M.length ∧ PtsC w la M := by
  rcases h with ⟨h1, h2⟩ | ⟨h0, g, h2, _, hS, _⟩
  · exact ⟨none, by rw [h2, h1]; rfl, fun i hi => by rw [h1] at hi; cases hi⟩
  · exact ⟨some ⟨g, 0, none⟩, h2, fun i hi => ⟨g, rfl, hS⟩⟩

set_option maxRecDepth 100000 in
set_option maxHeartbeats 16000000 in
theorem walk_any (V : Value) (n : Nat) (xs ys : Nat → Nat) (U : Value) (m : Nat) (us vs : Nat → Nat) (w : World) (h : AnyS w V n xs ys) (g : AnyS w U m us vs) : Calls Try.prog 4 #[V, U] w fun e w' => e = .returned (.bool true) ∧ Bel w w' := by
  have hAny := h
  have gAny := g
  by_cases hc : chkE xs ys n = 0
  · by_cases hd : chkE us vs m = 0
    · obtain ⟨a, cap, rfl, hcap, h3m, h4, h5, h6⟩ := h
      obtain ⟨b, cbp, rfl, gcap, g3m, g4, g5, g6⟩ := g
      obtain ⟨hGd, h3, h64, hout⟩ := chk_ok h5 hc
      obtain ⟨gGd, g3, g64, gout⟩ := chk_ok g5 hd
      rcases h6 with h60 | ⟨h60, b1, o1, rfl, hs1⟩
      · omega
      rcases g6 with g60 | ⟨g60, b2, o2, rfl, hs2⟩
      · omega
      have oks : okK .f64 4607182418800017408 := by rw [okK64]; decide
      have one43 : Bd 43 4607182418800017408 := bd_mono (⟨by rw [okK64]; decide, by decide +kernel, by decide +kernel⟩ : Bd 0 4607182418800017408) (by decide)
      have r1 : rv 4607182418800017408 = 1 := by decide +kernel
      have CH1 := fun W (hW : Bel w W) => chk_all _ n xs ys W (hAny.bel hW)
      have CH2 := fun W (hW : Bel w W) => chk_all _ m us vs W (gAny.bel hW)
      have SI1 := fun W (hW : Bel w W) => sides_ok b1 o1 n cap xs ys W (hs1.bel hW) h5 h60 h3m hcap hc
      have SI2 := fun W (hW : Bel w W) => sides_ok b2 o2 m cbp us vs W (hs2.bel hW) g5 g60 g3m gcap hd
      have BO := fun W (hW : Bel w W) => both_ok b1 o1 n cap b2 o2 m cbp xs ys us vs W (hs1.bel hW) h5 h60 h3m hcap hc (hs2.bel hW) g5 g60 g3m gcap hd
      have GR1 := fun W (hW : Bel w W) => gr_some b1 o1 n cap xs ys 4607182418800017408 W (hs1.bel hW) h5 oks h60 h3m hcap
      have GR2 := fun m0 W (hW : Bel w W) (om : okK .f64 m0) => gr_some b2 o2 m cbp us vs m0 W (hs2.bel hW) g5 om g60 g3m gcap
      rw [hc] at CH1
      rw [hd] at CH2
      have hcp : (bothL us vs m (lst xs ys n) m).length ≤ 16000000000000 := by
        obtain ⟨m9, em⟩ : ∃ j, m = j + 1 := ⟨m - 1, by omega⟩
        have c1 := both_cap (xs := us) (ys := vs) (n := m) (L := lst xs ys n) (by rw [lst_len]; exact h64) (k := m9) (by omega)
        have c2 := leftL_len (sdP us vs m m9) (bothL us vs m (lst xs ys n) m9)
        have c3 : bothL us vs m (lst xs ys n) m = leftL (sdP us vs m m9) (bothL us vs m (lst xs ys n) m9) := by
          have : bothL us vs m (lst xs ys n) (m9 + 1) = leftL (sdP us vs m m9) (bothL us vs m (lst xs ys n) m9) := rfl
          rw [← this, ← em]
        rw [c3]
        omega
      obtain ⟨kL, hkL⟩ : ∃ k, k = (bothL us vs m (lst xs ys n) m).length := ⟨_, rfl⟩
      rw [← hkL] at hcp
      have HkL := hide hkL
      clear hkL hc hd
      go_enter Try.func4, Try.ntmps4
      go_wp2_with (first | (go_at_call 9; refine (awake9 _).mono ?_; rintro e w_a ⟨rfl, hb⟩; have Ba := hb; clear hb) | (go_at_call 18; (with_reducible refine (CH1 _ Ba).mono ?_); rintro e w_b ⟨rfl, hb⟩; have Bb := bl_trans Ba hb; clear hb) | (go_at_call 18; (with_reducible refine (CH2 _ Bb).mono ?_); rintro e w_c ⟨rfl, hb⟩; have Bc := bl_trans Bb hb; clear hb) | (go_at_call 19; (with_reducible refine (SI1 _ Bc).mono ?_); rintro e w_d ⟨r, rfl, hr, hSa, hb⟩; have Bd_ := bl_trans Bc hb; clear hb) | (go_at_call 19; (with_reducible refine (SI2 _ Bd_).mono ?_); rintro e w_e ⟨r2, rfl, hr2, hT, hb⟩; replace hSa := hSa.bel hb; have Be := bl_trans Bd_ hb; clear hb) | (go_at_call 20; refine (BO _ Be).mono ?_; rintro e w_f ⟨v, rfl, hN, hb⟩; obtain ⟨la, ev, hLL⟩ := new_pts hN; rw [← unhide HkL] at ev; subst ev; replace hSa := hSa.bel hb; replace hT := hT.bel hb; have Bf := bl_trans Be hb; clear hb hN) | (go_at_call 11; (with_reducible refine (GR1 _ Bf).mono ?_); rintro e w_g ⟨ma, rfl, hma, hb⟩; have oma : okK .f64 ma := hma.1; replace hSa := hSa.bel hb; replace hT := hT.bel hb; replace hLL := hLL.bel hb; have Bg := bl_trans Bf hb; clear hb) | (go_at_call 11; (with_reducible refine (GR2 _ _ Bg oma).mono ?_); rintro e w_1 ⟨mo, rfl, hmo, hb⟩; replace hSa := hSa.bel hb; replace hT := hT.bel hb; replace hLL := hLL.bel hb; have B1 := bl_trans Bg hb; clear hb))
      obtain ⟨a1, a2, a3⟩ := hma.2 hGd one43
      obtain ⟨p1, p2, p3⟩ := hmo.2 gGd a1
      rw [r1] at a2
      have hM : 1 ≤ rv mo := Rat.le_trans a2 p2
      have hmA : ∀ j, j < n → ab (rv (xs j)) ≤ rv mo ∧ ab (rv (ys j)) ≤ rv mo := fun j hj => ⟨Rat.le_trans (a3 j hj).1 p2, Rat.le_trans (a3 j hj).2 p2⟩
      have hmB : ∀ j, j < m → ab (rv (us j)) ≤ rv mo ∧ ab (rv (vs j)) ≤ rv mo := fun j hj => p3 j hj
      have hlB := lst_bd hGd
      have hSz : Sz (rv mo) (lst xs ys n) := fun q hq => by
        unfold lst at hq
        rw [List.mem_map] at hq
        obtain ⟨j, hj, rfl⟩ := hq
        rw [List.mem_range] at hj
        exact hmA j hj
      have hCk : ∀ i, i < n → ∀ W, Calls Try.prog 10 #[.agg #[.float .f64 (sdP xs ys n i).1, .float .f64 (sdP xs ys n i).2.1, .float .f64 (sdP xs ys n i).2.2]] W fun e w' => e = .returned (.int .i64 0) ∧ Bel W w' := fun i hi W => by
        have hb := sd_bd hGd hi (hout i hi)
        have := cchk_any (sdP xs ys n i).1 (sdP xs ys n i).2.1 (sdP xs ys n i).2.2 W hb.1.1 hb.2.1.1 hb.2.2.1
        have e : pE ((sdP xs ys n i).1, (sdP xs ys n i).2.1, (sdP xs ys n i).2.2) = 0 := by unfold pE; rw [if_pos]; exact side_may hGd hi (hout i hi)
        rwa [e] at this
      have hIn1 : ∀ i, i < n → ∀ k, k < n → ∀ W, Calls Try.prog 14 #[.agg #[.float .f64 (sdP xs ys n i).1, .float .f64 (sdP xs ys n i).2.1, .float .f64 (sdP xs ys n i).2.2], .agg #[.float .f64 (xs k), .float .f64 (ys k)], .float .f64 mo] W fun e w' => e = .returned (.bool true) ∧ Bel W w' := fun i hi k hk W => by
        obtain ⟨nr, nf, _⟩ := side_far hGd hi (hout i hi) hM (hmA i hi).1 (hmA i hi).2
        have := in_d (nx := (sdP xs ys n i).1) (ny := (sdP xs ys n i).2.1) (fd := (sdP xs ys n i).2.2) (x := xs k) (y := ys k) W (sd_bd hGd hi (hout i hi)) (hGd k hk) (by decide) p1
        have e : leK .f64 (frK ((sdP xs ys n i).1, (sdP xs ys n i).2.1, (sdP xs ys n i).2.2) (xs k, ys k)) (Dv .mul 4436045632959938560 mo) = true := by
          have z := Rat.mul_nonneg (show (0 : Rat) ≤ epR by decide +kernel) (show 0 ≤ rv mo by grind)
          obtain ⟨q1, q2⟩ := hmA k hk
          exact plane_in (q := (sdP xs ys n i)) (a := (xs k, ys k)) (sd_bd hGd hi (hout i hi)) nr (hGd k hk) (by decide) p1 hM (by grind) (by grind) (by grind) (Rat.le_trans (own_within hGd hi hk (hout i hi) hM hmA) (by grind))
        rwa [e] at this
      have hBd := both_bd gGd gout hlB g64 m (Nat.le_refl _)
      have hBz := both_sz gGd gout g64 hlB hM hSz m (Nat.le_refl _)
      have hmk := (mK_le (M := rv mo) (k := m) hM g64).2
      have hIn2 : ∀ i, i < n → ∀ k, k < kL → ∀ W, Calls Try.prog 14 #[.agg #[.float .f64 (sdP xs ys n i).1, .float .f64 (sdP xs ys n i).2.1, .float .f64 (sdP xs ys n i).2.2], .agg #[.float .f64 (px (bothL us vs m (lst xs ys n) m) k), .float .f64 (py (bothL us vs m (lst xs ys n) m) k)], .float .f64 mo] W fun e w' => e = .returned (.bool true) ∧ Bel W w' := fun i hi k hk W => by
        have hmem : pt (bothL us vs m (lst xs ys n) m) k ∈ (bothL us vs m (lst xs ys n) m) := pt_mem (by rw [← unhide HkL]; exact hk)
        obtain ⟨nr, nf, _⟩ := side_far hGd hi (hout i hi) hM (hmA i hi).1 (hmA i hi).2
        have := in_d (nx := (sdP xs ys n i).1) (ny := (sdP xs ys n i).2.1) (fd := (sdP xs ys n i).2.2) (x := px (bothL us vs m (lst xs ys n) m) k) (y := py (bothL us vs m (lst xs ys n) m) k) W (sd_bd hGd hi (hout i hi)) (hBd _ hmem) (by omega) p1
        have e : leK .f64 (frK ((sdP xs ys n i).1, (sdP xs ys n i).2.1, (sdP xs ys n i).2.2) (px (bothL us vs m (lst xs ys n) m) k, py (bothL us vs m (lst xs ys n) m) k)) (Dv .mul 4436045632959938560 mo) = true := by
          obtain ⟨q1, q2⟩ := hBz _ hmem
          refine plane_in (q := (sdP xs ys n i)) (a := pt (bothL us vs m (lst xs ys n) m) k) (sd_bd hGd hi (hout i hi)) nr (hBd _ hmem) (by omega) p1 hM (by grind) (Rat.le_trans q1 hmk) (Rat.le_trans q2 hmk) (both_first gGd gout g64 hlB hM hSz nr (fun q hq => ?_) _ hmem)
          unfold lst at hq
          rw [List.mem_map] at hq
          obtain ⟨j, hj, rfl⟩ := hq
          rw [List.mem_range] at hj
          exact own_within hGd hi hj (hout i hi) hM hmA
        rwa [e] at this
      have hIn3 : ∀ i, i < m → ∀ k, k < kL → ∀ W, Calls Try.prog 14 #[.agg #[.float .f64 (sdP us vs m i).1, .float .f64 (sdP us vs m i).2.1, .float .f64 (sdP us vs m i).2.2], .agg #[.float .f64 (px (bothL us vs m (lst xs ys n) m) k), .float .f64 (py (bothL us vs m (lst xs ys n) m) k)], .float .f64 mo] W fun e w' => e = .returned (.bool true) ∧ Bel W w' := fun i hi k hk W => by
        have hmem : pt (bothL us vs m (lst xs ys n) m) k ∈ (bothL us vs m (lst xs ys n) m) := pt_mem (by rw [← unhide HkL]; exact hk)
        obtain ⟨nr, nf, _⟩ := side_far gGd hi (gout i hi) hM (hmB i hi).1 (hmB i hi).2
        have := in_d (nx := (sdP us vs m i).1) (ny := (sdP us vs m i).2.1) (fd := (sdP us vs m i).2.2) (x := px (bothL us vs m (lst xs ys n) m) k) (y := py (bothL us vs m (lst xs ys n) m) k) W (sd_bd gGd hi (gout i hi)) (hBd _ hmem) (by omega) p1
        have e : leK .f64 (frK ((sdP us vs m i).1, (sdP us vs m i).2.1, (sdP us vs m i).2.2) (px (bothL us vs m (lst xs ys n) m) k, py (bothL us vs m (lst xs ys n) m) k)) (Dv .mul 4436045632959938560 mo) = true := by
          obtain ⟨q1, q2⟩ := hBz _ hmem
          exact plane_in (q := (sdP us vs m i)) (a := pt (bothL us vs m (lst xs ys n) m) k) (sd_bd gGd hi (gout i hi)) nr (hBd _ hmem) (by omega) p1 hM (by grind) (Rat.le_trans q1 hmk) (Rat.le_trans q2 hmk) (both_second gGd gout g64 hlB hM hSz hmB hi _ hmem)
        rwa [e] at this
      clear hma hmo a1 a2 a3 p1 p2 p3 hM hmA hmB hlB hSz hBd hBz hmk one43 r1 CH1 CH2 SI1 SI2 BO GR1 GR2 Ba Bb Bc Bd_ Be Bf Bg oks
      go_loopw [13] (fun i' wq => ∃ i : Nat, i' = .int .i64 i ∧ i ≤ n ∧ Bel w_1 wq) (fun i' _ => n - (intOf i').toNat)
      case atStart => exact ⟨0, rfl, by omega, bl_refl _⟩
      case round =>
        obtain ⟨i, rfl, hi0, hBi⟩ := hrel
        by_cases hi : i < n
        · have k1 : (i : Int) < (n : Int) := by omega
          have wk : IntKind.wrap .i64 ((i : Int) + 1) = (i : Int) + 1 := by rw [IntKind.wrap_i64]; omega
          obtain ⟨c0, c1, c2⟩ := (hSa.bel hBi) i hi
          simp only [Nat.zero_add] at c0 c1 c2
          have CK := hCk i hi
          go_wp2_with (first | (go_at_call 10; refine (CK _).mono ?_; rintro e wc ⟨rfl, hbc⟩; replace hBi := bl_trans hBi hbc; clear hbc))
          clear c0 c1 c2
          go_loopw [14] (fun k' wq => ∃ j : Nat, k' = .int .i64 j ∧ j ≤ n ∧ Bel wc wq) (fun k' _ => n - (intOf k').toNat)
          case atStart => exact ⟨0, rfl, by omega, bl_refl _⟩
          case round =>
            obtain ⟨j, rfl, hj, hBj⟩ := hrel
            by_cases hltj : j < n
            · have k1 : (j : Int) < (n : Int) := by omega
              have wk : IntKind.wrap .i64 ((j : Int) + 1) = (j : Int) + 1 := by rw [IntKind.wrap_i64]; omega
              have IN := hIn1 i hi j hltj
              obtain ⟨u0, u1⟩ := (hs1.bel (bl_trans B1 (bl_trans hBi hBj))) j hltj
              obtain ⟨c0, c1, c2⟩ := (hSa.bel (bl_trans hBi hBj)) i hi
              simp only [Nat.zero_add] at c0 c1 c2
              haveI := belBy_some wr
              have y0 := belBy_cell c0
              have y1 := belBy_cell c1
              have y2 := belBy_cell c2
              have y3 := belBy_cell u0
              have y4 := belBy_cell u1
              go_wp2
              refine wp_region_quiet_bel (by kernel_rfl) (by kernel_rfl) ?_
              repeat (go_big_quiet_step (first | (go_at_call 14; exact calls_bel (IN _))))
              refine wpQuiet_nil ?_
              rintro _ ⟨nq, rfl⟩
              go_wp2
              exact ⟨⟨j + 1, by go_num, by omega, bl_trans hBj nq.h⟩, by simp [intOf]; omega⟩
            · have hkn : n = j := by omega
              subst hkn
              obtain ⟨wj, hwj⟩ : ∃ X, X = wr := ⟨_, rfl⟩
              subst hwj
              go_wp2

              go_loopw [15] (fun k' wq => ∃ k : Nat, k' = .int .i64 k ∧ k ≤ kL ∧ Bel wj wq) (fun k' _ => kL - (intOf k').toNat)
              case atStart => exact ⟨0, rfl, by omega, bl_refl _⟩
              case round =>
                obtain ⟨k, rfl, hk, hBk⟩ := hrel
                by_cases hltk : k < kL
                · have k1 : (k : Int) < (kL : Int) := by omega
                  have wk : IntKind.wrap .i64 ((k : Int) + 1) = (k : Int) + 1 := by rw [IntKind.wrap_i64]; omega
                  have IN := hIn2 i hi k hltk
                  obtain ⟨g, rfl, hS⟩ := hLL k (by rw [← unhide HkL]; exact hltk)
                  obtain ⟨u0, u1⟩ := (hS.bel (bl_trans (bl_trans hBi hBj) hBk)) k (by rw [← unhide HkL]; exact hltk)
                  simp only [Nat.zero_add] at u0 u1
                  obtain ⟨c0, c1, c2⟩ := (hSa.bel (bl_trans (bl_trans hBi hBj) hBk)) i hi
                  simp only [Nat.zero_add] at c0 c1 c2
                  haveI := belBy_some wr
                  have y0 := belBy_cell c0
                  have y1 := belBy_cell c1
                  have y2 := belBy_cell c2
                  have y3 := belBy_cell u0
                  have y4 := belBy_cell u1
                  go_wp2
                  refine wp_region_quiet_bel (by kernel_rfl) (by kernel_rfl) ?_
                  repeat (go_big_quiet_step (first | (go_at_call 14; exact calls_bel (IN _))))
                  refine wpQuiet_nil ?_
                  rintro _ ⟨nq, rfl⟩
                  go_wp2
                  exact ⟨⟨k + 1, by go_num, by omega, bl_trans hBk nq.h⟩, by simp [intOf]; omega⟩
                · have hkn : kL = k := by omega
                  subst hkn
                  go_wp2
                  exact ⟨⟨i + 1, by go_num, by omega, bl_trans (bl_trans hBi hBj) hBk⟩, by simp [intOf]; omega⟩
        · have hkn : n = i := by omega
          subst hkn
          obtain ⟨w_2, hw2⟩ : ∃ X, X = wr := ⟨_, rfl⟩
          subst hw2
          have B12 := hBi
          go_wp2
          go_loopw [16] (fun i' wq => ∃ i : Nat, i' = .int .i64 i ∧ i ≤ m ∧ Bel w_2 wq) (fun i' _ => m - (intOf i').toNat)
          case atStart => exact ⟨0, rfl, by omega, bl_refl _⟩
          case round =>
            obtain ⟨i, rfl, hi0, hBi⟩ := hrel
            by_cases hi : i < m
            · have k1 : (i : Int) < (m : Int) := by omega
              have wk : IntKind.wrap .i64 ((i : Int) + 1) = (i : Int) + 1 := by rw [IntKind.wrap_i64]; omega
              obtain ⟨wi, hwi⟩ : ∃ X, X = wr := ⟨_, rfl⟩
              subst hwi
              go_wp2
              go_loopw [17] (fun k' wq => ∃ k : Nat, k' = .int .i64 k ∧ k ≤ kL ∧ Bel wi wq) (fun k' _ => kL - (intOf k').toNat)
              case atStart => exact ⟨0, rfl, by omega, bl_refl _⟩
              case round =>
                obtain ⟨k, rfl, hk, hBk⟩ := hrel
                by_cases hltk : k < kL
                · have k1 : (k : Int) < (kL : Int) := by omega
                  have wk : IntKind.wrap .i64 ((k : Int) + 1) = (k : Int) + 1 := by rw [IntKind.wrap_i64]; omega
                  have IN := hIn3 i hi k hltk
                  obtain ⟨g, rfl, hS⟩ := hLL k (by rw [← unhide HkL]; exact hltk)
                  obtain ⟨u0, u1⟩ := (hS.bel (bl_trans (bl_trans B12 hBi) hBk)) k (by rw [← unhide HkL]; exact hltk)
                  simp only [Nat.zero_add] at u0 u1
                  obtain ⟨c0, c1, c2⟩ := (hT.bel (bl_trans (bl_trans B12 hBi) hBk)) i hi
                  simp only [Nat.zero_add] at c0 c1 c2
                  haveI := belBy_some wr
                  have y0 := belBy_cell c0
                  have y1 := belBy_cell c1
                  have y2 := belBy_cell c2
                  have y3 := belBy_cell u0
                  have y4 := belBy_cell u1
                  go_wp2
                  refine wp_region_quiet_bel (by kernel_rfl) (by kernel_rfl) ?_
                  repeat (go_big_quiet_step (first | (go_at_call 14; exact calls_bel (IN _))))
                  refine wpQuiet_nil ?_
                  rintro _ ⟨nq, rfl⟩
                  go_wp2
                  exact ⟨⟨k + 1, by go_num, by omega, bl_trans hBk nq.h⟩, by simp [intOf]; omega⟩
                · have hkn : kL = k := by omega
                  subst hkn
                  go_wp2
                  exact ⟨⟨i + 1, by go_num, by omega, bl_trans hBi hBk⟩, by simp [intOf]; omega⟩
            · have hkn : m = i := by omega
              subst hkn
              go_wp2
              go_ret
              exact ⟨rfl, bl_trans (bl_trans B1 B12) hBi⟩
    · have CH1 := fun W (hW : Bel w W) => chk_all _ n xs ys W (hAny.bel hW)
      have CH2 := fun W (hW : Bel w W) => chk_all _ m us vs W (gAny.bel hW)
      rw [hc] at CH1
      have hdb : (chkE us vs m == 0) = false := by simpa using hd
      clear hc
      go_enter Try.func4, Try.ntmps4
      go_wp2_with (first | (go_at_call 9; refine (awake9 _).mono ?_; rintro e w_a ⟨rfl, hb⟩; have Ba := hb; clear hb) | (go_at_call 18; (with_reducible refine (CH1 _ Ba).mono ?_); rintro e w_b ⟨rfl, hb⟩; have Bb := bl_trans Ba hb; clear hb) | (go_at_call 18; (with_reducible refine (CH2 _ Bb).mono ?_); rintro e w_c ⟨rfl, hb⟩; have Bc := bl_trans Bb hb; clear hb))
      go_ret
      exact ⟨rfl, Bc⟩
  · have CH1 := fun W (hW : Bel w W) => chk_all _ n xs ys W (hAny.bel hW)
    have hcb : (chkE xs ys n == 0) = false := by simpa using hc
    go_enter Try.func4, Try.ntmps4
    go_wp2_with (first | (go_at_call 9; refine (awake9 _).mono ?_; rintro e w_a ⟨rfl, hb⟩; have Ba := hb; clear hb) | (go_at_call 18; (with_reducible refine (CH1 _ Ba).mono ?_); rintro e w_b ⟨rfl, hb⟩; have Bb := bl_trans Ba hb; clear hb))
    go_ret
    exact ⟨rfl, Bb⟩

/-- a row of ways: none, or len of them in cells, with room for cap -/
def IsWays (w : World) (a : Option Addr) (len cap : Nat) : Prop :=
  (a = none ∧ len = 0 ∧ cap = 0) ∨ ∃ (x : Addr) (xs ys : Nat → Nat), a = some x ∧ len ≤ cap ∧ cap ≤ maxLen ∧ len * 16 ≤ 140737488351232 ∧ ∀ i, i < len → w.cell? (x.add (i * 2)) = some (.float .f64 (xs i)) ∧ w.cell? (x.add (i * 2 + 1)) = some (.float .f64 (ys i)) ∧ okK .f64 (xs i) ∧ okK .f64 (ys i)
theorem any_of {w : World} {a : Option Addr} {len cap : Nat} (h : IsWays w a len cap) : ∃ xs ys, AnyS w (.slice a len cap) len xs ys := by
  rcases h with ⟨rfl, rfl, rfl⟩ | ⟨x, xs, ys, rfl, hl, hm, hr, hcell⟩
  · exact ⟨fun _ => 0, fun _ => 0, _, _, rfl, Nat.le_refl _, by decide, by decide, fun i hi => by omega, .inl rfl⟩
  · refine ⟨xs, ys, _, _, rfl, hl, Nat.le_trans hl hm, hr, fun i hi => ⟨(hcell i hi).2.2.1, (hcell i hi).2.2.2⟩, ?_⟩
    rcases Nat.eq_zero_or_pos len with h0 | h0
    · exact .inl h0
    · right
      obtain ⟨b, off, spot⟩ := x
      have hspot : spot = none := by simpa [Addr.add] using World.cell?_spot (hcell 0 h0).1
      subst hspot
      refine ⟨h0, b, off, rfl, fun i hi => ⟨?_, ?_⟩⟩
      · have h := (hcell i hi).1
        rw [add_plain] at h
        exact h
      · have h := (hcell i hi).2.1
        rw [add_plain, ← Nat.add_assoc] at h
        exact h
theorem walk (a0 : Option Addr) (len0 cap0 : Nat) (a1 : Option Addr) (len1 cap1 : Nat) (w : World) (h0 : IsWays w a0 len0 cap0) (h1 : IsWays w a1 len1 cap1) :
    Calls Try.prog 4 #[.slice a0 len0 cap0, .slice a1 len1 cap1] w fun e w' => e = .returned (.bool true) ∧ Below w.heap.size w w' := by
  obtain ⟨xs0, ys0, g0⟩ := any_of h0
  obtain ⟨xs1, ys1, g1⟩ := any_of h1
  exact (walk_any _ _ xs0 ys0 _ _ xs1 ys1 w g0 g1).mono fun e w' h => ⟨h.1, h.2.1⟩

set_option maxRecDepth 100000 in
theorem lifted (os : Os) (started : os.Started) (H : Type) (enc : TypeId × Value → H) :
    ReturnsInHanded {} Try.checked os 4 .any (Rows.clipSidesSpec.pre6 enc Try.prog Try.f4 Rows.clipSidesRow.domain false) (Rows.clipSidesSpec.post enc Try.prog Try.f4 false true false false) := by
  refine returnsInHanded_of_change_sized (C := Try.checked) own started (by kernel_rfl) Try.func4
    (ChangeSpec.witness6 (enc := enc) (C := Try.checked) false ⟨#[], #[.slice none 0 0, .slice none 0 0], []⟩ 8 (by kernel_rfl) (by kernel_rfl) (by kernel_rfl) (by kernel_rfl)) ?_
  intro W base args ds gs before hval0 hW hcnd hsz0 _
  have hsz : (DataW.weightsEach Try.prog (Try.f4.params.toList ++ Rows.clipSidesSpec.plain.varTypes Try.prog) (ds ++ gs)).all (· ≤ reachBytes) = true := hsz0
  have hval : ∀ (j : Nat) t v, Try.f4.params[j]? = some t → args[j]? = some v → Value.okWide Try.prog W .any base t v := hval0
  have hW' := hW
  obtain ⟨p, q, hA0, hV, rfl, hfz, hnd⟩ := hW
  have hA : DataW.TrodAll enc Try.prog W 0 (fun _ => true) true Try.f4.params.toList args.toList ds p := hA0
  rw [Try.params4] at hA hval hsz
  obtain ⟨v0, vs0, d0, ds0, p0, q0, hargs, rfl, rfl, h0, r0⟩ := trodAll_cons hA
  obtain ⟨v1, vs1, d1, ds1, p1, q1, rfl, rfl, rfl, h1, r1⟩ := trodAll_cons r0
  obtain ⟨rfl, rfl, rfl⟩ := trodAll_nil r1
  obtain rfl : args = #[v0, v1] := by cases args; simp_all
  obtain ⟨rfl, rfl⟩ := trodVars_none hV
  obtain ⟨a0, len0, cap0, rfl⟩ := okWide_slice Try.underlying27 (hval 0 27 v0 rfl rfl)
  obtain ⟨a1, len1, cap1, rfl⟩ := okWide_slice Try.underlying27 (hval 1 27 v1 rfl rfl)
  have k0 := h0
  have lt0 : ∀ x ∈ p0, x.block < W.heap.size := by obtain ⟨m, hm⟩ := k0; exact DataW.trod_lt m _ _ _ hm
  have w0 : IsWays W a0 len0 cap0 := by
    obtain ⟨fuel, hf⟩ := h0
    rcases Go.Deep.open_slice_pairs Try.underlying27 Try.underlying24 (by kernel_rfl) rfl rfl (by kernel_rfl) (by kernel_rfl) hf with ⟨hcs, _⟩ | ⟨x, l, c, m, n, V0, V1, D0, D1, P0, P1, hcs, _, hl, hm, hmm, hx, hcell⟩
    · simp [Value.cells] at hcs
      exact .inl hcs
    · simp [Value.cells] at hcs
      obtain ⟨rfl, rfl, rfl⟩ := hcs
      simp only [Prod.mk.injEq] at hx
      obtain ⟨rfl, rfl⟩ := hx
      have hr := sized_slice hsz (j := 0) (t := 27) (e := 24) rfl rfl Try.underlying27
      rw [show Try.prog.bytesOf 24 = 16 by kernel_rfl] at hr
      simp only [List.length_map, List.length_range, reachBytes] at hr
      have hlm : len0 ≤ m := by rw [hmm]; split <;> omega
      have V : ∀ i, ∃ xy : Nat × Nat, i < m → V0 i = .float .f64 xy.1 ∧ V1 i = .float .f64 xy.2 ∧ okK .f64 xy.1 ∧ okK .f64 xy.2 := by
        intro i
        by_cases hi : i < m
        · obtain ⟨_, _, h3, h4⟩ := hcell i hi
          obtain ⟨x, e0, _, wx⟩ := trod_fl Try.underlying22 h3
          obtain ⟨y, e1, _, wy⟩ := trod_fl Try.underlying22 h4
          simp at e0 e1
          exact ⟨(x, y), fun _ => ⟨e0, e1, wf_f64 wx, wf_f64 wy⟩⟩
        · exact ⟨(0, 0), fun h => absurd h hi⟩
      have V' := Classical.axiomOfChoice V
      obtain ⟨f, hf'⟩ := V'
      refine .inr ⟨x, fun i => (f i).1, fun i => (f i).2, rfl, hl, hm, by omega, fun i hi => ?_⟩
      obtain ⟨e0, e1, o0, o1⟩ := hf' i (by omega)
      obtain ⟨c0, c1, _, _⟩ := hcell i (by omega)
      rw [e0] at c0
      rw [e1] at c1
      exact ⟨c0, c1, o0, o1⟩
  have k1 := h1
  have lt1 : ∀ x ∈ p1, x.block < W.heap.size := by obtain ⟨m, hm⟩ := k1; exact DataW.trod_lt m _ _ _ hm
  have w1 : IsWays W a1 len1 cap1 := by
    obtain ⟨fuel, hf⟩ := h1
    rcases Go.Deep.open_slice_pairs Try.underlying27 Try.underlying24 (by kernel_rfl) rfl rfl (by kernel_rfl) (by kernel_rfl) hf with ⟨hcs, _⟩ | ⟨x, l, c, m, n, V0, V1, D0, D1, P0, P1, hcs, _, hl, hm, hmm, hx, hcell⟩
    · simp [Value.cells] at hcs
      exact .inl hcs
    · simp [Value.cells] at hcs
      obtain ⟨rfl, rfl, rfl⟩ := hcs
      simp only [Prod.mk.injEq] at hx
      obtain ⟨rfl, rfl⟩ := hx
      have hr := sized_slice hsz (j := 1) (t := 27) (e := 24) rfl rfl Try.underlying27
      rw [show Try.prog.bytesOf 24 = 16 by kernel_rfl] at hr
      simp only [List.length_map, List.length_range, reachBytes] at hr
      have hlm : len1 ≤ m := by rw [hmm]; split <;> omega
      have V : ∀ i, ∃ xy : Nat × Nat, i < m → V0 i = .float .f64 xy.1 ∧ V1 i = .float .f64 xy.2 ∧ okK .f64 xy.1 ∧ okK .f64 xy.2 := by
        intro i
        by_cases hi : i < m
        · obtain ⟨_, _, h3, h4⟩ := hcell i hi
          obtain ⟨x, e0, _, wx⟩ := trod_fl Try.underlying22 h3
          obtain ⟨y, e1, _, wy⟩ := trod_fl Try.underlying22 h4
          simp at e0 e1
          exact ⟨(x, y), fun _ => ⟨e0, e1, wf_f64 wx, wf_f64 wy⟩⟩
        · exact ⟨(0, 0), fun h => absurd h hi⟩
      have V' := Classical.axiomOfChoice V
      obtain ⟨f, hf'⟩ := V'
      refine .inr ⟨x, fun i => (f i).1, fun i => (f i).2, rfl, hl, hm, by omega, fun i hi => ?_⟩
      obtain ⟨e0, e1, o0, o1⟩ := hf' i (by omega)
      obtain ⟨c0, c1, _, _⟩ := hcell i (by omega)
      rw [e0] at c0
      rw [e1] at c1
      exact ⟨c0, c1, o0, o1⟩
  clear hA0 hval0 hsz0
  refine (walk a0 len0 cap0 a1 len1 cap1 W w0 w1).mono fun e W' ⟨he, bel0⟩ => ?_
  have bel := bel0
  subst he
  exact ⟨_, rfl, _, _, _, [], _, [], hW', trodAll_mk1 (shut_bool Try.underlying4 _), (trodAll_cons_mk (Below.trod laidOut (by kernel_rfl) (of_decide_eq_true (by kernel_rfl)) k0 bel lt0) (trodAll_cons_mk (Below.trod laidOut (by kernel_rfl) (of_decide_eq_true (by kernel_rfl)) k1 bel lt1) trodAll_mk0)), rfl, bel.frame _, fun h => by cases h⟩

theorem over : Rows.clipSidesRow.holds Try.pinned (OpenSpec.ofChange Rows.clipSidesSpec) :=
  OpenClaim.holds_of_wide 4 Try.f4 rfl rfl rfl rfl rfl rfl rfl ⟨rfl, rfl, rfl, rfl, rfl⟩ rfl rfl rfl rfl rfl (by kernel_rfl) Try.func4 (by kernel_rfl)
    (of_decide_eq_true (by kernel_rfl)) (by unfold Func.isWrapper; first | (rw [if_pos (by decide +kernel)]; kernel_rfl) | (rw [if_neg (by decide +kernel)]; exact ⟨rfl, rfl⟩))
    (fun os started H enc _ => lifted os started H enc)

theorem proved : Rows.ClipSidesSaid :=
  over
#print axioms proved
end Go.Proofs.Ytpedpgpgcmhnoaa.clipSides
