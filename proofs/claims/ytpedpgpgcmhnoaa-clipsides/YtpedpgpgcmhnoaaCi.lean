/-
  What each function of package poly answers, and what the reference of its chapter answers: one contract a function, for every float: the answer stands in the relation of its formula to what was given; of the memory that was there nothing has turned.
-/
import Derived.Test.YtpedpgpgcmhnoaaVec
import Derived.Test.YtpedpgpgcmhnoaaCh
import Derived.Test.YtpedpgpgcmhnoaaCf
import Derived.Below
import Derived.LoopN
import Derived.WalkKit
import Derived.WalkLawsBesides
import Derived.WalkSpells
import Derived.ProofKit
import Derived.OpenShut
import Derived.Deep.RegionHeld3
namespace Go.Proofs.Ytpedpgpgcmhnoaa
open Go.ChangeShapes Go.WideShapes Go.ChangeAt Go.RowKit
set_option linter.unusedVariables false
set_option linter.unusedSimpArgs false


theorem make_cap (n : Nat) (z : Int) (hz : z = ((n : Nat) : Int)) (hn : n ≤ 16000000000000) (W : World) : (Instr.makeSlice 27 (.int .i64 0) (.int .i64 z)).run Try.prog W = .ok (.slice (some ⟨W.heap.size, 0, none⟩) 0 n) (W.alloc (.cells (madeCells #[.float .f64 0, .float .f64 0] (n * 2)) 24)) := by
  subst hz
  have h := run_make (P := Try.prog) W 27 24 Try.t24 (.agg #[.float .f64 0, .float .f64 0]) Try.underlying27 (by kernel_rfl) (by kernel_rfl) .i64 .i64 0 n (by omega) (by omega) (by show ((16 : Nat) : Int) * n ≤ _; omega) (by omega)
  exact h
theorem push9 {WX : World} {g m N x y : Nat} {R : List Pt} (hR : R.length = m) (hS : Sl WX g 0 m (px R) (py R)) (EX : ∀ j, j < N * 2 → (WX.cell? ⟨g, j, none⟩).isSome = true) (hm : m < N) (hf : ∀ o, WX.frozen? ⟨g, o, none⟩ = false) :
    ∃ w2 vA vB, (WX.setCell ⟨g, m * 2, none⟩ (.float .f64 x)).setCell ⟨g, m * 2 + 1, none⟩ (.float .f64 y) = w2 ∧ WX.cell? ⟨g, m * 2, none⟩ = some vA ∧ (WX.setCell ⟨g, m * 2, none⟩ (.float .f64 x)).cell? ⟨g, m * 2 + 1, none⟩ = some vB ∧ (∀ o, (WX.setCell ⟨g, m * 2, none⟩ (.float .f64 x)).frozen? ⟨g, o, none⟩ = false) ∧
      Sl w2 g 0 (m + 1) (px (R ++ [(x, y)])) (py (R ++ [(x, y)])) ∧ (∀ j, j < N * 2 → (w2.cell? ⟨g, j, none⟩).isSome = true) ∧ (∀ q o v, q ≠ g → WX.cell? ⟨q, o, none⟩ = some v → w2.cell? ⟨q, o, none⟩ = some v) ∧ w2.heap.size = WX.heap.size ∧ ∀ W0, Bel W0 WX → W0.heap.size ≤ g → Bel W0 w2 := by
  obtain ⟨vA, hA⟩ := Option.isSome_iff_exists.1 (EX (m * 2) (by omega))
  obtain ⟨vB, hB⟩ := Option.isSome_iff_exists.1 (EX (m * 2 + 1) (by omega))
  have hS2 := Sl.put (off := 0) (p := (x, y)) hR hS (by rw [Nat.zero_add, hA]; rfl) (by rw [Nat.zero_add, hB]; rfl)
  simp only [Nat.zero_add] at hS2
  have mo : Mo g WX ((WX.setCell ⟨g, m * 2, none⟩ (.float .f64 x)).setCell ⟨g, m * 2 + 1, none⟩ (.float .f64 y)) := ((Mo.refl g WX).set).set
  refine ⟨_, vA, vB, rfl, hA, cell_apart (by omega) hB, fun o => (World.frozen?_setCell _ _ _ _).trans (hf o), hS2, fun j hj => some_set (some_set (EX j hj)), fun q o v hq hv => (mo.cell q o (World.block_lt_of_cell? _ _ hv) hq).trans hv, by simp only [World.size_setCell], fun W0 h0 hw => mo.bel W0 h0 hw⟩
theorem one_at {W : World} {x y b : Nat} {cs : Array Value} (hb : W.heap.size = b) (hc : cs = #[.float .f64 x, .float .f64 y]) : Sl (W.alloc (.cells cs 24)) b 0 1 (px [(x, y)]) (py [(x, y)]) := by
  subst hb hc
  exact one_sl W (x, y)

set_option maxRecDepth 100000 in
set_option maxHeartbeats 8000000 in
theorem pieces_d (b off n cap : Nat) (L : List Pt) (k nx ny fd : Nat) (w : World) (hl : L.length = n) (hs : Sl w b off n (px L) (py L)) (hn0 : 0 < n) (hn : n ≤ 8000000000000) (hcap : n ≤ cap) (hp : PnB (nx, ny, fd)) (hL : PsB k L) (hk : k ≤ 600) :
    Calls Try.prog 81 #[.agg #[.float .f64 nx, .float .f64 ny, .float .f64 fd], .slice (some ⟨b, off, none⟩) n cap] w fun e w' => ∃ g, e = .returned (.slice (some ⟨g, 0, none⟩) (rowN (nx, ny, fd) L n).length (2 * n)) ∧ w.heap.size ≤ g ∧ Sl w' g 0 (rowN (nx, ny, fd) L n).length (px (rowN (nx, ny, fd) L n)) (py (rowN (nx, ny, fd) L n)) ∧ Bel w w' := by
  have hmax : n ≤ maxLen := by unfold maxLen; omega
  unfold maxLen at hmax
  have hlb := hs.lt hn0
  have wz : IntKind.wrap .i64 (2 * (n : Int)) = 2 * (n : Int) := by rw [IntKind.wrap_i64]; omega
  have hmk := fun W => make_cap (2 * n) (2 * (n : Int)) (by omega) (by omega) W
  have hne : ¬ n = 0 := by omega
  have hnI : ¬ (n : Int) = 0 := by omega
  have rowN9 : ∀ kx j, kx < n → j = (kx + 1) % n → rowN (nx, ny, fd) L (kx + 1) = rowN (nx, ny, fd) L kx ++ sideL (nx, ny, fd) (px L kx, py L kx) (px L j, py L j) := fun kx j hkx hj => by
    rw [hj]
    simp only [rowN, hl]
    rfl
  have z0_0 : (w.alloc (.cells #[.float .f64 nx, .float .f64 ny, .float .f64 fd] 26)).cell? ⟨w.heap.size, 0, none⟩ = some (.float .f64 nx) := by rw [World.cell?_alloc_new]; rfl
  have z0_1 : (w.alloc (.cells #[.float .f64 nx, .float .f64 ny, .float .f64 fd] 26)).cell? ⟨w.heap.size, 1, none⟩ = some (.float .f64 ny) := by rw [World.cell?_alloc_new]; rfl
  have z0_2 : (w.alloc (.cells #[.float .f64 nx, .float .f64 ny, .float .f64 fd] 26)).cell? ⟨w.heap.size, 2, none⟩ = some (.float .f64 fd) := by rw [World.cell?_alloc_new]; rfl
  have B0 : Bel w (w.alloc (.cells #[.float .f64 nx, .float .f64 ny, .float .f64 fd] 26)) := bl_alloc (bl_refl w) _ _
  have BM : Bel (w.alloc (.cells #[.float .f64 nx, .float .f64 ny, .float .f64 fd] 26)) ((w.alloc (.cells #[.float .f64 nx, .float .f64 ny, .float .f64 fd] 26)).alloc (.cells (madeCells #[.float .f64 0, .float .f64 0] (2 * n * 2)) 24)) := bl_alloc (bl_refl _) _ _
  have msl := made_sl (w.alloc (.cells #[.float .f64 nx, .float .f64 ny, .float .f64 fd] 26)) 24 (2 * n)
  go_enter Try.func81, Try.ntmps81
  go_wp2
  go_loopw [17, 5] (fun i' v' wr => ∃ kx m : Nat, kx ≤ n ∧ i' = .int .i64 kx ∧ (rowN (nx, ny, fd) L kx).length = m ∧ v' = .slice (some ⟨w.heap.size + 1, 0, none⟩) m (2 * n) ∧ Bel (w.alloc (.cells #[.float .f64 nx, .float .f64 ny, .float .f64 fd] 26)) wr ∧ Sl wr (w.heap.size + 1) 0 m (px (rowN (nx, ny, fd) L kx)) (py (rowN (nx, ny, fd) L kx)) ∧ ∀ j, j < 2 * n * 2 → (wr.cell? ⟨w.heap.size + 1, j, none⟩).isSome = true) (fun i' _ _ => n - (intOf i').toNat)
  case atStart =>
    refine ⟨0, 0, by omega, rfl, rfl, rfl, BM, fun i hi => by omega, fun j hj => ?_⟩
    obtain ⟨e1, e2⟩ := msl (j / 2) (by omega)
    rw [World.size_alloc] at e1 e2
    rcases Nat.mod_two_eq_zero_or_one j with h | h
    · rw [show 0 + j / 2 * 2 = j by omega] at e1; rw [e1]; rfl
    · rw [show 0 + j / 2 * 2 + 1 = j by omega] at e2; rw [e2]; rfl
  case round =>
    obtain ⟨kx, m, hkn, rfl, hm, rfl, hB, hR, EX⟩ := hrel
    by_cases hlt : kx < n
    · have k1 : (kx : Int) < (n : Int) := by omega
      have wi : IntKind.wrap .i64 ((kx : Int) + 1) = (kx : Int) + 1 := by rw [IntKind.wrap_i64]; omega
      obtain ⟨j, hjd⟩ : ∃ j, j = (kx + 1) % n := ⟨_, rfl⟩
      have hj : j < n := by rw [hjd]; exact Nat.mod_lt _ (by omega)
      have et : ((kx : Int) + 1).tmod (n : Int) = (j : Int) := by rw [hjd]; exact tmod_nat kx n
      have j0 : (0 : Int) ≤ (j : Int) := by omega
      have j1 : (j : Int) < (n : Int) := by omega
      have hm2 := rowN_len (nx, ny, fd) L kx
      rw [hm] at hm2
      have rowN9 := rowN9 kx j hlt hjd
      clear hjd
      have ha : PtB k (px L kx, py L kx) := hL _ (pt_mem (by omega))
      have hb_ : PtB k (px L j, py L j) := hL _ (pt_mem (by omega))
      have BWr := bl_trans B0 hB
      obtain ⟨x0, x1⟩ := (hs.bel BWr) kx hlt
      obtain ⟨x2, x3⟩ := (hs.bel BWr) j hj
      cases h1 : leK .f64 (frK (nx, ny, fd) ((px L kx), (py L kx))) 0 <;> cases h2 : leK .f64 (frK (nx, ny, fd) ((px L j), (py L j))) 0
      rotate_left 3
      · have hsd : sideL (nx, ny, fd) ((px L kx), (py L kx)) ((px L j), (py L j)) = [((px L kx), (py L kx))] := by
          unfold sideL
          rw [show wiB (nx, ny, fd) ((px L kx), (py L kx)) = true from h1, show wiB (nx, ny, fd) ((px L j), (py L j)) = true from h2]
          rfl
        go_wp2
        refine wp_region_new 23 rfl (fun i v => match i with | 0 => v = .agg #[.float .f64 nx, .float .f64 ny, .float .f64 fd] | 1 => v = .slice (some ⟨b, off, none⟩) n cap | 2 => v = .int .i64 (kx : Int) | 3 => v = .pointer (some ⟨b, off + kx * 2, none⟩) | 4 => v = .agg #[.float .f64 (px L kx), .float .f64 (py L kx)] | 5 => v = .agg #[.float .f64 (px L kx), .float .f64 (py L kx), .float .f64 (frK (nx, ny, fd) ((px L kx), (py L kx)))] | 6 => v = .agg #[.float .f64 nx, .float .f64 ny, .float .f64 fd] | 7 => v = .slice (some ⟨b, off, none⟩) n cap | 8 => v = .int .i64 (kx : Int) | 9 => v = .int .i64 ((kx : Int) + 1) | 10 => v = .slice (some ⟨b, off, none⟩) n cap | 11 => v = .int .i64 (n : Int) | 12 => v = .int .i64 (j : Int) | 13 => v = .pointer (some ⟨b, off + j * 2, none⟩) | 14 => v = .agg #[.float .f64 (px L j), .float .f64 (py L j)] | 15 => v = .agg #[.float .f64 (px L j), .float .f64 (py L j), .float .f64 (frK (nx, ny, fd) ((px L j), (py L j)))] | 16 => v = .tuple #[.agg #[.float .f64 (px L kx), .float .f64 (py L kx), .float .f64 (px L j), .float .f64 (py L j), .int .i64 0, .int .i64 1], .bool true] | 17 => v = .tuple #[.agg #[.float .f64 (px L kx), .float .f64 (py L kx), .float .f64 (px L j), .float .f64 (py L j), .int .i64 0, .int .i64 1], .bool true] | 18 => v = .agg #[.float .f64 (px L kx), .float .f64 (py L kx), .float .f64 (px L j), .float .f64 (py L j), .int .i64 0, .int .i64 1] | 19 => v = .bool true | 22 => v = .bool true | _ => False) [(20, #[.float .f64 0, .float .f64 0, .float .f64 0, .float .f64 0, .int .i64 0, .int .i64 0], 79)] [(21, 20, 18)] ?A_wn (by kernel_rfl) (by kernel_rfl) ?hA_wn ?ha_wn ?hst_wn ?hq_wn ?ht_wn
        case hA_wn =>
          intro s
          simp only [putL, dstO, Act.put, List.getElem?_toArray, List.getElem?_cons_zero, List.getElem?_cons_succ, Option.bind_some, List.setIfInBounds_toArray, List.set_cons_zero, List.set_cons_succ, if_true]
          all_goals exact rfl
        case ha_wn =>
          intro i o c ty hi ho hal B W K hK
          rcases (show i = 0 ∨ i = 1 ∨ i = 2 ∨ i = 3 ∨ i = 4 ∨ i = 5 ∨ i = 6 ∨ i = 7 ∨ i = 8 ∨ i = 9 ∨ i = 10 ∨ i = 11 ∨ i = 12 ∨ i = 13 ∨ i = 14 ∨ i = 15 ∨ i = 16 ∨ i = 17 ∨ i = 18 ∨ i = 19 ∨ i = 20 ∨ i = 21 ∨ i = 22 by omega) with rfl | rfl | rfl | rfl | rfl | rfl | rfl | rfl | rfl | rfl | rfl | rfl | rfl | rfl | rfl | rfl | rfl | rfl | rfl | rfl | rfl | rfl | rfl
          · cases (show none = some (c, ty) from hal)
          · cases (show none = some (c, ty) from hal)
          · cases (show none = some (c, ty) from hal)
          · cases (show none = some (c, ty) from hal)
          · cases (show none = some (c, ty) from hal)
          · cases (show none = some (c, ty) from hal)
          · cases (show none = some (c, ty) from hal)
          · cases (show none = some (c, ty) from hal)
          · cases (show none = some (c, ty) from hal)
          · cases (show none = some (c, ty) from hal)
          · cases (show none = some (c, ty) from hal)
          · cases (show none = some (c, ty) from hal)
          · cases (show none = some (c, ty) from hal)
          · cases (show none = some (c, ty) from hal)
          · cases (show none = some (c, ty) from hal)
          · cases (show none = some (c, ty) from hal)
          · cases (show none = some (c, ty) from hal)
          · cases (show none = some (c, ty) from hal)
          · cases (show none = some (c, ty) from hal)
          · cases (show none = some (c, ty) from hal)
          · cases ho; cases (show some (#[.float .f64 0, .float .f64 0, .float .f64 0, .float .f64 0, .int .i64 0, .int .i64 0], 79) = some (c, ty) from hal); go_simp; exact hK.out
          · cases (show none = some (c, ty) from hal)
          · cases (show none = some (c, ty) from hal)
        case hst_wn =>
          intro t o a d c ty hlt ho hts hal s hs W b eb hc hf K hK
          rcases (show t = 0 ∨ t = 1 ∨ t = 2 ∨ t = 3 ∨ t = 4 ∨ t = 5 ∨ t = 6 ∨ t = 7 ∨ t = 8 ∨ t = 9 ∨ t = 10 ∨ t = 11 ∨ t = 12 ∨ t = 13 ∨ t = 14 ∨ t = 15 ∨ t = 16 ∨ t = 17 ∨ t = 18 ∨ t = 19 ∨ t = 20 ∨ t = 21 ∨ t = 22 by omega) with rfl | rfl | rfl | rfl | rfl | rfl | rfl | rfl | rfl | rfl | rfl | rfl | rfl | rfl | rfl | rfl | rfl | rfl | rfl | rfl | rfl | rfl | rfl
          · cases (show none = some (a, d) from hts)
          · cases (show none = some (a, d) from hts)
          · cases (show none = some (a, d) from hts)
          · cases (show none = some (a, d) from hts)
          · cases (show none = some (a, d) from hts)
          · cases (show none = some (a, d) from hts)
          · cases (show none = some (a, d) from hts)
          · cases (show none = some (a, d) from hts)
          · cases (show none = some (a, d) from hts)
          · cases (show none = some (a, d) from hts)
          · cases (show none = some (a, d) from hts)
          · cases (show none = some (a, d) from hts)
          · cases (show none = some (a, d) from hts)
          · cases (show none = some (a, d) from hts)
          · cases (show none = some (a, d) from hts)
          · cases (show none = some (a, d) from hts)
          · cases (show none = some (a, d) from hts)
          · cases (show none = some (a, d) from hts)
          · cases (show none = some (a, d) from hts)
          · cases (show none = some (a, d) from hts)
          · cases (show none = some (a, d) from hts)
          · cases ho; cases (show some (20, 18) = some (a, d) from hts); cases (show some (#[.float .f64 0, .float .f64 0, .float .f64 0, .float .f64 0, .int .i64 0, .int .i64 0], 79) = some (c, ty) from hal)
            have e18 : s 18 = _ := hs 18 (by decide) rfl rfl (by kernel_rfl)
            obtain ⟨u0, hu0⟩ := Option.isSome_iff_exists.1 (hc 0 (by decide))
            obtain ⟨u1, hu1⟩ := Option.isSome_iff_exists.1 (hc 1 (by decide))
            obtain ⟨u2, hu2⟩ := Option.isSome_iff_exists.1 (hc 2 (by decide))
            obtain ⟨u3, hu3⟩ := Option.isSome_iff_exists.1 (hc 3 (by decide))
            obtain ⟨u4, hu4⟩ := Option.isSome_iff_exists.1 (hc 4 (by decide))
            obtain ⟨u5, hu5⟩ := Option.isSome_iff_exists.1 (hc 5 (by decide))
            simp only [eb, e18] at hK ⊢
            clear hs
            go_simp
            exact hK.out
          · cases (show none = some (a, d) from hts)
        case hq_wn =>
          intro i o hi hal hts ho s hs W hb K hK
          have uz0 := keep (bl_trans hB hb) z0_0; have uz1 := keep (bl_trans hB hb) z0_1; have uz2 := keep (bl_trans hB hb) z0_2; have ux0 := keep hb x0; have ux1 := keep hb x1; have ux2 := keep hb x2; have ux3 := keep hb x3; have lW := World.block_lt_of_cell? _ _ ux0; simp only at lW
          rcases (show i = 0 ∨ i = 1 ∨ i = 2 ∨ i = 3 ∨ i = 4 ∨ i = 5 ∨ i = 6 ∨ i = 7 ∨ i = 8 ∨ i = 9 ∨ i = 10 ∨ i = 11 ∨ i = 12 ∨ i = 13 ∨ i = 14 ∨ i = 15 ∨ i = 16 ∨ i = 17 ∨ i = 18 ∨ i = 19 ∨ i = 20 ∨ i = 21 ∨ i = 22 by omega) with rfl | rfl | rfl | rfl | rfl | rfl | rfl | rfl | rfl | rfl | rfl | rfl | rfl | rfl | rfl | rfl | rfl | rfl | rfl | rfl | rfl | rfl | rfl
          · cases ho
            simp only [Act.put, List.setIfInBounds_toArray, List.set_cons_zero, List.set_cons_succ] at hK
            clear hs hal hts
            go_simp
            all_goals (try go_wp2_with (first | (go_at_call 50; (first | with_reducible refine (endOf_d _ hp ha hk).mono ?_ | with_reducible refine (endOf_d _ hp hb_ hk).mono ?_); rintro e w' ⟨rfl, hb1⟩) | (go_at_call 49; refine (piece_11 _ hp ha hb_ hk h1 h2).mono ?_; rintro e w' ⟨rfl, hb1⟩)))
            all_goals first | exact hK.out _ _ rfl (bl_refl _) | exact hK.out _ _ rfl (by assumption) | exact hK.out _ _ (by assumption) (by assumption)
          · cases ho
            simp only [Act.put, List.setIfInBounds_toArray, List.set_cons_zero, List.set_cons_succ] at hK
            clear hs hal hts
            go_simp
            all_goals (try go_wp2_with (first | (go_at_call 50; (first | with_reducible refine (endOf_d _ hp ha hk).mono ?_ | with_reducible refine (endOf_d _ hp hb_ hk).mono ?_); rintro e w' ⟨rfl, hb1⟩) | (go_at_call 49; refine (piece_11 _ hp ha hb_ hk h1 h2).mono ?_; rintro e w' ⟨rfl, hb1⟩)))
            all_goals first | exact hK.out _ _ rfl (bl_refl _) | exact hK.out _ _ rfl (by assumption) | exact hK.out _ _ (by assumption) (by assumption)
          · cases ho
            simp only [Act.put, List.setIfInBounds_toArray, List.set_cons_zero, List.set_cons_succ] at hK
            clear hs hal hts
            go_simp
            all_goals (try go_wp2_with (first | (go_at_call 50; (first | with_reducible refine (endOf_d _ hp ha hk).mono ?_ | with_reducible refine (endOf_d _ hp hb_ hk).mono ?_); rintro e w' ⟨rfl, hb1⟩) | (go_at_call 49; refine (piece_11 _ hp ha hb_ hk h1 h2).mono ?_; rintro e w' ⟨rfl, hb1⟩)))
            all_goals first | exact hK.out _ _ rfl (bl_refl _) | exact hK.out _ _ rfl (by assumption) | exact hK.out _ _ (by assumption) (by assumption)
          · cases ho
            have e1 : s 1 = _ := hs 1 (by decide) rfl rfl (by kernel_rfl)
            have e2 : s 2 = _ := hs 2 (by decide) rfl rfl (by kernel_rfl)
            simp only [e1, e2] at hK ⊢
            simp only [Act.put, List.setIfInBounds_toArray, List.set_cons_zero, List.set_cons_succ] at hK
            clear hs hal hts
            go_simp
            all_goals (try go_wp2_with (first | (go_at_call 50; (first | with_reducible refine (endOf_d _ hp ha hk).mono ?_ | with_reducible refine (endOf_d _ hp hb_ hk).mono ?_); rintro e w' ⟨rfl, hb1⟩) | (go_at_call 49; refine (piece_11 _ hp ha hb_ hk h1 h2).mono ?_; rintro e w' ⟨rfl, hb1⟩)))
            all_goals first | exact hK.out _ _ rfl (bl_refl _) | exact hK.out _ _ rfl (by assumption) | exact hK.out _ _ (by assumption) (by assumption)
          · cases ho
            have e3 : s 3 = _ := hs 3 (by decide) rfl rfl (by kernel_rfl)
            simp only [e3] at hK ⊢
            simp only [Act.put, List.setIfInBounds_toArray, List.set_cons_zero, List.set_cons_succ] at hK
            clear hs hal hts
            go_simp
            all_goals (try go_wp2_with (first | (go_at_call 50; (first | with_reducible refine (endOf_d _ hp ha hk).mono ?_ | with_reducible refine (endOf_d _ hp hb_ hk).mono ?_); rintro e w' ⟨rfl, hb1⟩) | (go_at_call 49; refine (piece_11 _ hp ha hb_ hk h1 h2).mono ?_; rintro e w' ⟨rfl, hb1⟩)))
            all_goals first | exact hK.out _ _ rfl (bl_refl _) | exact hK.out _ _ rfl (by assumption) | exact hK.out _ _ (by assumption) (by assumption)
          · cases ho
            have e0 : s 0 = _ := hs 0 (by decide) rfl rfl (by kernel_rfl)
            have e4 : s 4 = _ := hs 4 (by decide) rfl rfl (by kernel_rfl)
            simp only [e0, e4] at hK ⊢
            simp only [Act.put, List.setIfInBounds_toArray, List.set_cons_zero, List.set_cons_succ] at hK
            clear hs hal hts
            go_simp
            all_goals (try go_wp2_with (first | (go_at_call 50; (first | with_reducible refine (endOf_d _ hp ha hk).mono ?_ | with_reducible refine (endOf_d _ hp hb_ hk).mono ?_); rintro e w' ⟨rfl, hb1⟩) | (go_at_call 49; refine (piece_11 _ hp ha hb_ hk h1 h2).mono ?_; rintro e w' ⟨rfl, hb1⟩)))
            all_goals first | exact hK.out _ _ rfl (bl_refl _) | exact hK.out _ _ rfl (by assumption) | exact hK.out _ _ (by assumption) (by assumption)
          · cases ho
            simp only [Act.put, List.setIfInBounds_toArray, List.set_cons_zero, List.set_cons_succ] at hK
            clear hs hal hts
            go_simp
            all_goals (try go_wp2_with (first | (go_at_call 50; (first | with_reducible refine (endOf_d _ hp ha hk).mono ?_ | with_reducible refine (endOf_d _ hp hb_ hk).mono ?_); rintro e w' ⟨rfl, hb1⟩) | (go_at_call 49; refine (piece_11 _ hp ha hb_ hk h1 h2).mono ?_; rintro e w' ⟨rfl, hb1⟩)))
            all_goals first | exact hK.out _ _ rfl (bl_refl _) | exact hK.out _ _ rfl (by assumption) | exact hK.out _ _ (by assumption) (by assumption)
          · cases ho
            simp only [Act.put, List.setIfInBounds_toArray, List.set_cons_zero, List.set_cons_succ] at hK
            clear hs hal hts
            go_simp
            all_goals (try go_wp2_with (first | (go_at_call 50; (first | with_reducible refine (endOf_d _ hp ha hk).mono ?_ | with_reducible refine (endOf_d _ hp hb_ hk).mono ?_); rintro e w' ⟨rfl, hb1⟩) | (go_at_call 49; refine (piece_11 _ hp ha hb_ hk h1 h2).mono ?_; rintro e w' ⟨rfl, hb1⟩)))
            all_goals first | exact hK.out _ _ rfl (bl_refl _) | exact hK.out _ _ rfl (by assumption) | exact hK.out _ _ (by assumption) (by assumption)
          · cases ho
            simp only [Act.put, List.setIfInBounds_toArray, List.set_cons_zero, List.set_cons_succ] at hK
            clear hs hal hts
            go_simp
            all_goals (try go_wp2_with (first | (go_at_call 50; (first | with_reducible refine (endOf_d _ hp ha hk).mono ?_ | with_reducible refine (endOf_d _ hp hb_ hk).mono ?_); rintro e w' ⟨rfl, hb1⟩) | (go_at_call 49; refine (piece_11 _ hp ha hb_ hk h1 h2).mono ?_; rintro e w' ⟨rfl, hb1⟩)))
            all_goals first | exact hK.out _ _ rfl (bl_refl _) | exact hK.out _ _ rfl (by assumption) | exact hK.out _ _ (by assumption) (by assumption)
          · cases ho
            have e8 : s 8 = _ := hs 8 (by decide) rfl rfl (by kernel_rfl)
            simp only [e8] at hK ⊢
            simp only [Act.put, List.setIfInBounds_toArray, List.set_cons_zero, List.set_cons_succ] at hK
            clear hs hal hts
            go_simp
            all_goals (try go_wp2_with (first | (go_at_call 50; (first | with_reducible refine (endOf_d _ hp ha hk).mono ?_ | with_reducible refine (endOf_d _ hp hb_ hk).mono ?_); rintro e w' ⟨rfl, hb1⟩) | (go_at_call 49; refine (piece_11 _ hp ha hb_ hk h1 h2).mono ?_; rintro e w' ⟨rfl, hb1⟩)))
            all_goals first | exact hK.out _ _ rfl (bl_refl _) | exact hK.out _ _ rfl (by assumption) | exact hK.out _ _ (by assumption) (by assumption)
          · cases ho
            simp only [Act.put, List.setIfInBounds_toArray, List.set_cons_zero, List.set_cons_succ] at hK
            clear hs hal hts
            go_simp
            all_goals (try go_wp2_with (first | (go_at_call 50; (first | with_reducible refine (endOf_d _ hp ha hk).mono ?_ | with_reducible refine (endOf_d _ hp hb_ hk).mono ?_); rintro e w' ⟨rfl, hb1⟩) | (go_at_call 49; refine (piece_11 _ hp ha hb_ hk h1 h2).mono ?_; rintro e w' ⟨rfl, hb1⟩)))
            all_goals first | exact hK.out _ _ rfl (bl_refl _) | exact hK.out _ _ rfl (by assumption) | exact hK.out _ _ (by assumption) (by assumption)
          · cases ho
            have e10 : s 10 = _ := hs 10 (by decide) rfl rfl (by kernel_rfl)
            simp only [e10] at hK ⊢
            simp only [Act.put, List.setIfInBounds_toArray, List.set_cons_zero, List.set_cons_succ] at hK
            clear hs hal hts
            go_simp
            all_goals (try go_wp2_with (first | (go_at_call 50; (first | with_reducible refine (endOf_d _ hp ha hk).mono ?_ | with_reducible refine (endOf_d _ hp hb_ hk).mono ?_); rintro e w' ⟨rfl, hb1⟩) | (go_at_call 49; refine (piece_11 _ hp ha hb_ hk h1 h2).mono ?_; rintro e w' ⟨rfl, hb1⟩)))
            all_goals first | exact hK.out _ _ rfl (bl_refl _) | exact hK.out _ _ rfl (by assumption) | exact hK.out _ _ (by assumption) (by assumption)
          · cases ho
            have e9 : s 9 = _ := hs 9 (by decide) rfl rfl (by kernel_rfl)
            have e11 : s 11 = _ := hs 11 (by decide) rfl rfl (by kernel_rfl)
            simp only [e9, e11] at hK ⊢
            simp only [Act.put, List.setIfInBounds_toArray, List.set_cons_zero, List.set_cons_succ] at hK
            clear hs hal hts
            go_simp
            all_goals (try go_wp2_with (first | (go_at_call 50; (first | with_reducible refine (endOf_d _ hp ha hk).mono ?_ | with_reducible refine (endOf_d _ hp hb_ hk).mono ?_); rintro e w' ⟨rfl, hb1⟩) | (go_at_call 49; refine (piece_11 _ hp ha hb_ hk h1 h2).mono ?_; rintro e w' ⟨rfl, hb1⟩)))
            all_goals first | exact hK.out _ _ rfl (bl_refl _) | exact hK.out _ _ rfl (by assumption) | exact hK.out _ _ (by assumption) (by assumption)
          · cases ho
            have e7 : s 7 = _ := hs 7 (by decide) rfl rfl (by kernel_rfl)
            have e12 : s 12 = _ := hs 12 (by decide) rfl rfl (by kernel_rfl)
            simp only [e7, e12] at hK ⊢
            simp only [Act.put, List.setIfInBounds_toArray, List.set_cons_zero, List.set_cons_succ] at hK
            clear hs hal hts
            go_simp
            all_goals (try go_wp2_with (first | (go_at_call 50; (first | with_reducible refine (endOf_d _ hp ha hk).mono ?_ | with_reducible refine (endOf_d _ hp hb_ hk).mono ?_); rintro e w' ⟨rfl, hb1⟩) | (go_at_call 49; refine (piece_11 _ hp ha hb_ hk h1 h2).mono ?_; rintro e w' ⟨rfl, hb1⟩)))
            all_goals first | exact hK.out _ _ rfl (bl_refl _) | exact hK.out _ _ rfl (by assumption) | exact hK.out _ _ (by assumption) (by assumption)
          · cases ho
            have e13 : s 13 = _ := hs 13 (by decide) rfl rfl (by kernel_rfl)
            simp only [e13] at hK ⊢
            simp only [Act.put, List.setIfInBounds_toArray, List.set_cons_zero, List.set_cons_succ] at hK
            clear hs hal hts
            go_simp
            all_goals (try go_wp2_with (first | (go_at_call 50; (first | with_reducible refine (endOf_d _ hp ha hk).mono ?_ | with_reducible refine (endOf_d _ hp hb_ hk).mono ?_); rintro e w' ⟨rfl, hb1⟩) | (go_at_call 49; refine (piece_11 _ hp ha hb_ hk h1 h2).mono ?_; rintro e w' ⟨rfl, hb1⟩)))
            all_goals first | exact hK.out _ _ rfl (bl_refl _) | exact hK.out _ _ rfl (by assumption) | exact hK.out _ _ (by assumption) (by assumption)
          · cases ho
            have e6 : s 6 = _ := hs 6 (by decide) rfl rfl (by kernel_rfl)
            have e14 : s 14 = _ := hs 14 (by decide) rfl rfl (by kernel_rfl)
            simp only [e6, e14] at hK ⊢
            simp only [Act.put, List.setIfInBounds_toArray, List.set_cons_zero, List.set_cons_succ] at hK
            clear hs hal hts
            go_simp
            all_goals (try go_wp2_with (first | (go_at_call 50; (first | with_reducible refine (endOf_d _ hp ha hk).mono ?_ | with_reducible refine (endOf_d _ hp hb_ hk).mono ?_); rintro e w' ⟨rfl, hb1⟩) | (go_at_call 49; refine (piece_11 _ hp ha hb_ hk h1 h2).mono ?_; rintro e w' ⟨rfl, hb1⟩)))
            all_goals first | exact hK.out _ _ rfl (bl_refl _) | exact hK.out _ _ rfl (by assumption) | exact hK.out _ _ (by assumption) (by assumption)
          · cases ho
            have e5 : s 5 = _ := hs 5 (by decide) rfl rfl (by kernel_rfl)
            have e15 : s 15 = _ := hs 15 (by decide) rfl rfl (by kernel_rfl)
            simp only [e5, e15] at hK ⊢
            simp only [Act.put, List.setIfInBounds_toArray, List.set_cons_zero, List.set_cons_succ] at hK
            clear hs hal hts
            go_simp
            all_goals (try go_wp2_with (first | (go_at_call 50; (first | with_reducible refine (endOf_d _ hp ha hk).mono ?_ | with_reducible refine (endOf_d _ hp hb_ hk).mono ?_); rintro e w' ⟨rfl, hb1⟩) | (go_at_call 49; refine (piece_11 _ hp ha hb_ hk h1 h2).mono ?_; rintro e w' ⟨rfl, hb1⟩)))
            all_goals first | exact hK.out _ _ rfl (bl_refl _) | exact hK.out _ _ rfl (by assumption) | exact hK.out _ _ (by assumption) (by assumption)
          · cases ho
            have e16 : s 16 = _ := hs 16 (by decide) rfl rfl (by kernel_rfl)
            simp only [e16] at hK ⊢
            simp only [Act.put, List.setIfInBounds_toArray, List.set_cons_zero, List.set_cons_succ] at hK
            clear hs hal hts
            go_simp
            all_goals (try go_wp2_with (first | (go_at_call 50; (first | with_reducible refine (endOf_d _ hp ha hk).mono ?_ | with_reducible refine (endOf_d _ hp hb_ hk).mono ?_); rintro e w' ⟨rfl, hb1⟩) | (go_at_call 49; refine (piece_11 _ hp ha hb_ hk h1 h2).mono ?_; rintro e w' ⟨rfl, hb1⟩)))
            all_goals first | exact hK.out _ _ rfl (bl_refl _) | exact hK.out _ _ rfl (by assumption) | exact hK.out _ _ (by assumption) (by assumption)
          · cases ho
            have e17 : s 17 = _ := hs 17 (by decide) rfl rfl (by kernel_rfl)
            simp only [e17] at hK ⊢
            simp only [Act.put, List.setIfInBounds_toArray, List.set_cons_zero, List.set_cons_succ] at hK
            clear hs hal hts
            go_simp
            all_goals (try go_wp2_with (first | (go_at_call 50; (first | with_reducible refine (endOf_d _ hp ha hk).mono ?_ | with_reducible refine (endOf_d _ hp hb_ hk).mono ?_); rintro e w' ⟨rfl, hb1⟩) | (go_at_call 49; refine (piece_11 _ hp ha hb_ hk h1 h2).mono ?_; rintro e w' ⟨rfl, hb1⟩)))
            all_goals first | exact hK.out _ _ rfl (bl_refl _) | exact hK.out _ _ rfl (by assumption) | exact hK.out _ _ (by assumption) (by assumption)
          · cases ho
            have e17 : s 17 = _ := hs 17 (by decide) rfl rfl (by kernel_rfl)
            simp only [e17] at hK ⊢
            simp only [Act.put, List.setIfInBounds_toArray, List.set_cons_zero, List.set_cons_succ] at hK
            clear hs hal hts
            go_simp
            all_goals (try go_wp2_with (first | (go_at_call 50; (first | with_reducible refine (endOf_d _ hp ha hk).mono ?_ | with_reducible refine (endOf_d _ hp hb_ hk).mono ?_); rintro e w' ⟨rfl, hb1⟩) | (go_at_call 49; refine (piece_11 _ hp ha hb_ hk h1 h2).mono ?_; rintro e w' ⟨rfl, hb1⟩)))
            all_goals first | exact hK.out _ _ rfl (bl_refl _) | exact hK.out _ _ rfl (by assumption) | exact hK.out _ _ (by assumption) (by assumption)
          · cases (show some _ = none from hal)
          · cases (show some _ = none from hts)
          · cases ho
            have e19 : s 19 = _ := hs 19 (by decide) rfl rfl (by kernel_rfl)
            simp only [e19] at hK ⊢
            simp only [Act.put, List.setIfInBounds_toArray, List.set_cons_zero, List.set_cons_succ] at hK
            clear hs hal hts
            go_simp
            all_goals (try go_wp2_with (first | (go_at_call 50; (first | with_reducible refine (endOf_d _ hp ha hk).mono ?_ | with_reducible refine (endOf_d _ hp hb_ hk).mono ?_); rintro e w' ⟨rfl, hb1⟩) | (go_at_call 49; refine (piece_11 _ hp ha hb_ hk h1 h2).mono ?_; rintro e w' ⟨rfl, hb1⟩)))
            all_goals first | exact hK.out _ _ rfl (bl_refl _) | exact hK.out _ _ rfl (by assumption) | exact hK.out _ _ (by assumption) (by assumption)
        case ht_wn =>
          intro s hs W hb hJ
          have e0 : s 0 = _ := hs 0 (by decide) rfl rfl
          have e1 : s 1 = _ := hs 1 (by decide) rfl rfl
          have e2 : s 2 = _ := hs 2 (by decide) rfl rfl
          have e3 : s 3 = _ := hs 3 (by decide) rfl rfl
          have e4 : s 4 = _ := hs 4 (by decide) rfl rfl
          have e5 : s 5 = _ := hs 5 (by decide) rfl rfl
          have e6 : s 6 = _ := hs 6 (by decide) rfl rfl
          have e7 : s 7 = _ := hs 7 (by decide) rfl rfl
          have e8 : s 8 = _ := hs 8 (by decide) rfl rfl
          have e9 : s 9 = _ := hs 9 (by decide) rfl rfl
          have e10 : s 10 = _ := hs 10 (by decide) rfl rfl
          have e11 : s 11 = _ := hs 11 (by decide) rfl rfl
          have e12 : s 12 = _ := hs 12 (by decide) rfl rfl
          have e13 : s 13 = _ := hs 13 (by decide) rfl rfl
          have e14 : s 14 = _ := hs 14 (by decide) rfl rfl
          have e15 : s 15 = _ := hs 15 (by decide) rfl rfl
          have e16 : s 16 = _ := hs 16 (by decide) rfl rfl
          have e17 : s 17 = _ := hs 17 (by decide) rfl rfl
          have e18 : s 18 = _ := hs 18 (by decide) rfl rfl
          have e19 : s 19 = _ := hs 19 (by decide) rfl rfl
          have e22 : s 22 = _ := hs 22 (by decide) rfl rfl
          obtain ⟨p20, e20, n20, l20, cl20⟩ := hJ.1 20 _ _ (by decide) rfl rfl
          have k_p20_0 : W.cell? ⟨p20, 0, none⟩ = some (cellAt (s 18) 0) := cl20 0 (by decide)
          have k_p20_1 : W.cell? ⟨p20, 1, none⟩ = some (cellAt (s 18) 1) := cl20 1 (by decide)
          have k_p20_2 : W.cell? ⟨p20, 2, none⟩ = some (cellAt (s 18) 2) := cl20 2 (by decide)
          have k_p20_3 : W.cell? ⟨p20, 3, none⟩ = some (cellAt (s 18) 3) := cl20 3 (by decide)
          have k_p20_4 : W.cell? ⟨p20, 4, none⟩ = some (cellAt (s 18) 4) := cl20 4 (by decide)
          have k_p20_5 : W.cell? ⟨p20, 5, none⟩ = some (cellAt (s 18) 5) := cl20 5 (by decide)
          rw [e18] at k_p20_0 k_p20_1 k_p20_2 k_p20_3 k_p20_4 k_p20_5
          simp only [cellAt] at k_p20_0 k_p20_1 k_p20_2 k_p20_3 k_p20_4 k_p20_5
          simp only [e0, e1, e2, e3, e4, e5, e6, e7, e8, e9, e10, e11, e12, e13, e14, e15, e16, e17, e18, e19, e22, e20]
          clear hs hJ e0 e1 e2 e3 e4 e5 e6 e7 e8 e9 e10 e11 e12 e13 e14 e15 e16 e17 e18 e19 e22 e20 cl20
          have B1 := bl_trans hB hb
          have lG : w.heap.size + 1 < W.heap.size := Nat.lt_of_lt_of_le (by simpa using World.block_lt_of_cell? _ _ (Option.isSome_iff_exists.1 (EX 0 (by omega))).choose_spec) hb.size
          have fz0 : ∀ o, W.frozen? ⟨w.heap.size + 1, o, none⟩ = false := fun o => (B1.2 _).trans (fresh_frozen (by simp))
          have hne : p20 ≠ w.heap.size + 1 := by have := (show w.heap.size + 1 < wr.heap.size by simpa using World.block_lt_of_cell? _ _ (Option.isSome_iff_exists.1 (EX 0 (by omega))).choose_spec); omega
          have BX0 : Bel W ((W.alloc (.cells #[.float .f64 (px L kx), .float .f64 (py L kx)] 24)).alloc (.cells #[.float .f64 (px L kx), .float .f64 (py L kx)] 24)) := bl_alloc (bl_alloc (bl_refl _) _ _) _ _
          have zX0 : ((W.alloc (.cells #[.float .f64 (px L kx), .float .f64 (py L kx)] 24)).alloc (.cells #[.float .f64 (px L kx), .float .f64 (py L kx)] 24)).heap.size = W.heap.size + 1 + 1 := by simp only [World.size_alloc]
          have hfX0 : ∀ o, ((W.alloc (.cells #[.float .f64 (px L kx), .float .f64 (py L kx)] 24)).alloc (.cells #[.float .f64 (px L kx), .float .f64 (py L kx)] 24)).frozen? ⟨w.heap.size + 1, o, none⟩ = false := fun o => (BX0.2 _).trans (fz0 o)
          obtain ⟨w2, vA0, vB0, hw0, cA0, cB0, fB0, RS0, EX0, FA0, SZ0, BE0⟩ := push9 (WX := ((W.alloc (.cells #[.float .f64 (px L kx), .float .f64 (py L kx)] 24)).alloc (.cells #[.float .f64 (px L kx), .float .f64 (py L kx)] 24))) (g := w.heap.size + 1) (R := (rowN (nx, ny, fd) L kx)) (x := (px L kx)) (y := (py L kx)) (N := 2 * n) hm ((hR.bel hb).bel BX0) (fun j hj => some_bel BX0 (some_bel hb (EX j hj))) (by omega) hfX0
          have kk4 := keep (bl_alloc (bl_refl W) #[.float .f64 (px L kx), .float .f64 (py L kx)] 24) k_p20_4
          have kk5 := FA0 _ _ _ hne (keep BX0 k_p20_5)
          have BW2 := BE0 _ (bl_trans B1 BX0) (by simp)
          have kk6 := keep (bl_alloc (bl_refl w2) #[.float .f64 (px L j), .float .f64 (py L j)] 24) kk5
          have BW3 : Bel (w.alloc (.cells #[.float .f64 nx, .float .f64 ny, .float .f64 fd] 26)) (w2.alloc (.cells #[.float .f64 (px L j), .float .f64 (py L j)] 24)) := bl_alloc BW2 _ _
          have qi0 : ∀ X : World, (Instr.index 76 (.agg #[.float .f64 (px L kx), .float .f64 (py L kx), .float .f64 (px L j), .float .f64 (py L j)]) (.int .i64 0)).run Try.prog X = .ok (.agg #[.float .f64 (px L kx), .float .f64 (py L kx)]) X := fun X => by kernel_rfl
          have qi1 : ∀ X : World, (Instr.index 76 (.agg #[.float .f64 (px L kx), .float .f64 (py L kx), .float .f64 (px L j), .float .f64 (py L j)]) (.int .i64 1)).run Try.prog X = .ok (.agg #[.float .f64 (px L j), .float .f64 (py L j)]) X := fun X => by kernel_rfl
          go_wp2
          refine wp_loop_rounds 3 ?_
          rw [rounds_succ]
          go_wp2
          rw [rounds_succ]
          go_wp2
          rw [rounds_succ]
          go_wp2
          exact ⟨⟨kx + 1, m + 1, by omega, by go_num, by rw [rowN9, hsd]; simp [hm], rfl, BW3, by rw [rowN9, hsd]; exact RS0.bel (bl_alloc (bl_refl _) _ _), fun j hj => some_bel (bl_alloc (bl_refl _) _ _) (EX0 j hj)⟩, by simp [intOf]; omega⟩
      · have hsd : sideL (nx, ny, fd) ((px L kx), (py L kx)) ((px L j), (py L j)) = [] := by
          unfold sideL
          rw [show wiB (nx, ny, fd) ((px L kx), (py L kx)) = false from h1, show wiB (nx, ny, fd) ((px L j), (py L j)) = false from h2]
          rfl
        go_wp2
        refine wp_region_new 23 rfl (fun i v => match i with | 0 => v = .agg #[.float .f64 nx, .float .f64 ny, .float .f64 fd] | 1 => v = .slice (some ⟨b, off, none⟩) n cap | 2 => v = .int .i64 (kx : Int) | 3 => v = .pointer (some ⟨b, off + kx * 2, none⟩) | 4 => v = .agg #[.float .f64 (px L kx), .float .f64 (py L kx)] | 5 => v = .agg #[.float .f64 (px L kx), .float .f64 (py L kx), .float .f64 (frK (nx, ny, fd) ((px L kx), (py L kx)))] | 6 => v = .agg #[.float .f64 nx, .float .f64 ny, .float .f64 fd] | 7 => v = .slice (some ⟨b, off, none⟩) n cap | 8 => v = .int .i64 (kx : Int) | 9 => v = .int .i64 ((kx : Int) + 1) | 10 => v = .slice (some ⟨b, off, none⟩) n cap | 11 => v = .int .i64 (n : Int) | 12 => v = .int .i64 (j : Int) | 13 => v = .pointer (some ⟨b, off + j * 2, none⟩) | 14 => v = .agg #[.float .f64 (px L j), .float .f64 (py L j)] | 15 => v = .agg #[.float .f64 (px L j), .float .f64 (py L j), .float .f64 (frK (nx, ny, fd) ((px L j), (py L j)))] | 16 => v = .tuple #[.agg #[.float .f64 0, .float .f64 0, .float .f64 0, .float .f64 0, .int .i64 0, .int .i64 0], .bool false] | 17 => v = .tuple #[.agg #[.float .f64 0, .float .f64 0, .float .f64 0, .float .f64 0, .int .i64 0, .int .i64 0], .bool false] | 18 => v = .agg #[.float .f64 0, .float .f64 0, .float .f64 0, .float .f64 0, .int .i64 0, .int .i64 0] | 19 => v = .bool false | 22 => v = .bool false | _ => False) [(20, #[.float .f64 0, .float .f64 0, .float .f64 0, .float .f64 0, .int .i64 0, .int .i64 0], 79)] [(21, 20, 18)] ?A_wn (by kernel_rfl) (by kernel_rfl) ?hA_wn ?ha_wn ?hst_wn ?hq_wn ?ht_wn
        case hA_wn =>
          intro s
          simp only [putL, dstO, Act.put, List.getElem?_toArray, List.getElem?_cons_zero, List.getElem?_cons_succ, Option.bind_some, List.setIfInBounds_toArray, List.set_cons_zero, List.set_cons_succ, if_true]
          all_goals exact rfl
        case ha_wn =>
          intro i o c ty hi ho hal B W K hK
          rcases (show i = 0 ∨ i = 1 ∨ i = 2 ∨ i = 3 ∨ i = 4 ∨ i = 5 ∨ i = 6 ∨ i = 7 ∨ i = 8 ∨ i = 9 ∨ i = 10 ∨ i = 11 ∨ i = 12 ∨ i = 13 ∨ i = 14 ∨ i = 15 ∨ i = 16 ∨ i = 17 ∨ i = 18 ∨ i = 19 ∨ i = 20 ∨ i = 21 ∨ i = 22 by omega) with rfl | rfl | rfl | rfl | rfl | rfl | rfl | rfl | rfl | rfl | rfl | rfl | rfl | rfl | rfl | rfl | rfl | rfl | rfl | rfl | rfl | rfl | rfl
          · cases (show none = some (c, ty) from hal)
          · cases (show none = some (c, ty) from hal)
          · cases (show none = some (c, ty) from hal)
          · cases (show none = some (c, ty) from hal)
          · cases (show none = some (c, ty) from hal)
          · cases (show none = some (c, ty) from hal)
          · cases (show none = some (c, ty) from hal)
          · cases (show none = some (c, ty) from hal)
          · cases (show none = some (c, ty) from hal)
          · cases (show none = some (c, ty) from hal)
          · cases (show none = some (c, ty) from hal)
          · cases (show none = some (c, ty) from hal)
          · cases (show none = some (c, ty) from hal)
          · cases (show none = some (c, ty) from hal)
          · cases (show none = some (c, ty) from hal)
          · cases (show none = some (c, ty) from hal)
          · cases (show none = some (c, ty) from hal)
          · cases (show none = some (c, ty) from hal)
          · cases (show none = some (c, ty) from hal)
          · cases (show none = some (c, ty) from hal)
          · cases ho; cases (show some (#[.float .f64 0, .float .f64 0, .float .f64 0, .float .f64 0, .int .i64 0, .int .i64 0], 79) = some (c, ty) from hal); go_simp; exact hK.out
          · cases (show none = some (c, ty) from hal)
          · cases (show none = some (c, ty) from hal)
        case hst_wn =>
          intro t o a d c ty hlt ho hts hal s hs W b eb hc hf K hK
          rcases (show t = 0 ∨ t = 1 ∨ t = 2 ∨ t = 3 ∨ t = 4 ∨ t = 5 ∨ t = 6 ∨ t = 7 ∨ t = 8 ∨ t = 9 ∨ t = 10 ∨ t = 11 ∨ t = 12 ∨ t = 13 ∨ t = 14 ∨ t = 15 ∨ t = 16 ∨ t = 17 ∨ t = 18 ∨ t = 19 ∨ t = 20 ∨ t = 21 ∨ t = 22 by omega) with rfl | rfl | rfl | rfl | rfl | rfl | rfl | rfl | rfl | rfl | rfl | rfl | rfl | rfl | rfl | rfl | rfl | rfl | rfl | rfl | rfl | rfl | rfl
          · cases (show none = some (a, d) from hts)
          · cases (show none = some (a, d) from hts)
          · cases (show none = some (a, d) from hts)
          · cases (show none = some (a, d) from hts)
          · cases (show none = some (a, d) from hts)
          · cases (show none = some (a, d) from hts)
          · cases (show none = some (a, d) from hts)
          · cases (show none = some (a, d) from hts)
          · cases (show none = some (a, d) from hts)
          · cases (show none = some (a, d) from hts)
          · cases (show none = some (a, d) from hts)
          · cases (show none = some (a, d) from hts)
          · cases (show none = some (a, d) from hts)
          · cases (show none = some (a, d) from hts)
          · cases (show none = some (a, d) from hts)
          · cases (show none = some (a, d) from hts)
          · cases (show none = some (a, d) from hts)
          · cases (show none = some (a, d) from hts)
          · cases (show none = some (a, d) from hts)
          · cases (show none = some (a, d) from hts)
          · cases (show none = some (a, d) from hts)
          · cases ho; cases (show some (20, 18) = some (a, d) from hts); cases (show some (#[.float .f64 0, .float .f64 0, .float .f64 0, .float .f64 0, .int .i64 0, .int .i64 0], 79) = some (c, ty) from hal)
            have e18 : s 18 = _ := hs 18 (by decide) rfl rfl (by kernel_rfl)
            obtain ⟨u0, hu0⟩ := Option.isSome_iff_exists.1 (hc 0 (by decide))
            obtain ⟨u1, hu1⟩ := Option.isSome_iff_exists.1 (hc 1 (by decide))
            obtain ⟨u2, hu2⟩ := Option.isSome_iff_exists.1 (hc 2 (by decide))
            obtain ⟨u3, hu3⟩ := Option.isSome_iff_exists.1 (hc 3 (by decide))
            obtain ⟨u4, hu4⟩ := Option.isSome_iff_exists.1 (hc 4 (by decide))
            obtain ⟨u5, hu5⟩ := Option.isSome_iff_exists.1 (hc 5 (by decide))
            simp only [eb, e18] at hK ⊢
            clear hs
            go_simp
            exact hK.out
          · cases (show none = some (a, d) from hts)
        case hq_wn =>
          intro i o hi hal hts ho s hs W hb K hK
          have uz0 := keep (bl_trans hB hb) z0_0; have uz1 := keep (bl_trans hB hb) z0_1; have uz2 := keep (bl_trans hB hb) z0_2; have ux0 := keep hb x0; have ux1 := keep hb x1; have ux2 := keep hb x2; have ux3 := keep hb x3; have lW := World.block_lt_of_cell? _ _ ux0; simp only at lW
          rcases (show i = 0 ∨ i = 1 ∨ i = 2 ∨ i = 3 ∨ i = 4 ∨ i = 5 ∨ i = 6 ∨ i = 7 ∨ i = 8 ∨ i = 9 ∨ i = 10 ∨ i = 11 ∨ i = 12 ∨ i = 13 ∨ i = 14 ∨ i = 15 ∨ i = 16 ∨ i = 17 ∨ i = 18 ∨ i = 19 ∨ i = 20 ∨ i = 21 ∨ i = 22 by omega) with rfl | rfl | rfl | rfl | rfl | rfl | rfl | rfl | rfl | rfl | rfl | rfl | rfl | rfl | rfl | rfl | rfl | rfl | rfl | rfl | rfl | rfl | rfl
          · cases ho
            simp only [Act.put, List.setIfInBounds_toArray, List.set_cons_zero, List.set_cons_succ] at hK
            clear hs hal hts
            go_simp
            all_goals (try go_wp2_with (first | (go_at_call 50; (first | with_reducible refine (endOf_d _ hp ha hk).mono ?_ | with_reducible refine (endOf_d _ hp hb_ hk).mono ?_); rintro e w' ⟨rfl, hb1⟩) | (go_at_call 49; refine (piece_00 _ hp ha hb_ hk h1 h2).mono ?_; rintro e w' ⟨rfl, hb1⟩)))
            all_goals first | exact hK.out _ _ rfl (bl_refl _) | exact hK.out _ _ rfl (by assumption) | exact hK.out _ _ (by assumption) (by assumption)
          · cases ho
            simp only [Act.put, List.setIfInBounds_toArray, List.set_cons_zero, List.set_cons_succ] at hK
            clear hs hal hts
            go_simp
            all_goals (try go_wp2_with (first | (go_at_call 50; (first | with_reducible refine (endOf_d _ hp ha hk).mono ?_ | with_reducible refine (endOf_d _ hp hb_ hk).mono ?_); rintro e w' ⟨rfl, hb1⟩) | (go_at_call 49; refine (piece_00 _ hp ha hb_ hk h1 h2).mono ?_; rintro e w' ⟨rfl, hb1⟩)))
            all_goals first | exact hK.out _ _ rfl (bl_refl _) | exact hK.out _ _ rfl (by assumption) | exact hK.out _ _ (by assumption) (by assumption)
          · cases ho
            simp only [Act.put, List.setIfInBounds_toArray, List.set_cons_zero, List.set_cons_succ] at hK
            clear hs hal hts
            go_simp
            all_goals (try go_wp2_with (first | (go_at_call 50; (first | with_reducible refine (endOf_d _ hp ha hk).mono ?_ | with_reducible refine (endOf_d _ hp hb_ hk).mono ?_); rintro e w' ⟨rfl, hb1⟩) | (go_at_call 49; refine (piece_00 _ hp ha hb_ hk h1 h2).mono ?_; rintro e w' ⟨rfl, hb1⟩)))
            all_goals first | exact hK.out _ _ rfl (bl_refl _) | exact hK.out _ _ rfl (by assumption) | exact hK.out _ _ (by assumption) (by assumption)
          · cases ho
            have e1 : s 1 = _ := hs 1 (by decide) rfl rfl (by kernel_rfl)
            have e2 : s 2 = _ := hs 2 (by decide) rfl rfl (by kernel_rfl)
            simp only [e1, e2] at hK ⊢
            simp only [Act.put, List.setIfInBounds_toArray, List.set_cons_zero, List.set_cons_succ] at hK
            clear hs hal hts
            go_simp
            all_goals (try go_wp2_with (first | (go_at_call 50; (first | with_reducible refine (endOf_d _ hp ha hk).mono ?_ | with_reducible refine (endOf_d _ hp hb_ hk).mono ?_); rintro e w' ⟨rfl, hb1⟩) | (go_at_call 49; refine (piece_00 _ hp ha hb_ hk h1 h2).mono ?_; rintro e w' ⟨rfl, hb1⟩)))
            all_goals first | exact hK.out _ _ rfl (bl_refl _) | exact hK.out _ _ rfl (by assumption) | exact hK.out _ _ (by assumption) (by assumption)
          · cases ho
            have e3 : s 3 = _ := hs 3 (by decide) rfl rfl (by kernel_rfl)
            simp only [e3] at hK ⊢
            simp only [Act.put, List.setIfInBounds_toArray, List.set_cons_zero, List.set_cons_succ] at hK
            clear hs hal hts
            go_simp
            all_goals (try go_wp2_with (first | (go_at_call 50; (first | with_reducible refine (endOf_d _ hp ha hk).mono ?_ | with_reducible refine (endOf_d _ hp hb_ hk).mono ?_); rintro e w' ⟨rfl, hb1⟩) | (go_at_call 49; refine (piece_00 _ hp ha hb_ hk h1 h2).mono ?_; rintro e w' ⟨rfl, hb1⟩)))
            all_goals first | exact hK.out _ _ rfl (bl_refl _) | exact hK.out _ _ rfl (by assumption) | exact hK.out _ _ (by assumption) (by assumption)
          · cases ho
            have e0 : s 0 = _ := hs 0 (by decide) rfl rfl (by kernel_rfl)
            have e4 : s 4 = _ := hs 4 (by decide) rfl rfl (by kernel_rfl)
            simp only [e0, e4] at hK ⊢
            simp only [Act.put, List.setIfInBounds_toArray, List.set_cons_zero, List.set_cons_succ] at hK
            clear hs hal hts
            go_simp
            all_goals (try go_wp2_with (first | (go_at_call 50; (first | with_reducible refine (endOf_d _ hp ha hk).mono ?_ | with_reducible refine (endOf_d _ hp hb_ hk).mono ?_); rintro e w' ⟨rfl, hb1⟩) | (go_at_call 49; refine (piece_00 _ hp ha hb_ hk h1 h2).mono ?_; rintro e w' ⟨rfl, hb1⟩)))
            all_goals first | exact hK.out _ _ rfl (bl_refl _) | exact hK.out _ _ rfl (by assumption) | exact hK.out _ _ (by assumption) (by assumption)
          · cases ho
            simp only [Act.put, List.setIfInBounds_toArray, List.set_cons_zero, List.set_cons_succ] at hK
            clear hs hal hts
            go_simp
            all_goals (try go_wp2_with (first | (go_at_call 50; (first | with_reducible refine (endOf_d _ hp ha hk).mono ?_ | with_reducible refine (endOf_d _ hp hb_ hk).mono ?_); rintro e w' ⟨rfl, hb1⟩) | (go_at_call 49; refine (piece_00 _ hp ha hb_ hk h1 h2).mono ?_; rintro e w' ⟨rfl, hb1⟩)))
            all_goals first | exact hK.out _ _ rfl (bl_refl _) | exact hK.out _ _ rfl (by assumption) | exact hK.out _ _ (by assumption) (by assumption)
          · cases ho
            simp only [Act.put, List.setIfInBounds_toArray, List.set_cons_zero, List.set_cons_succ] at hK
            clear hs hal hts
            go_simp
            all_goals (try go_wp2_with (first | (go_at_call 50; (first | with_reducible refine (endOf_d _ hp ha hk).mono ?_ | with_reducible refine (endOf_d _ hp hb_ hk).mono ?_); rintro e w' ⟨rfl, hb1⟩) | (go_at_call 49; refine (piece_00 _ hp ha hb_ hk h1 h2).mono ?_; rintro e w' ⟨rfl, hb1⟩)))
            all_goals first | exact hK.out _ _ rfl (bl_refl _) | exact hK.out _ _ rfl (by assumption) | exact hK.out _ _ (by assumption) (by assumption)
          · cases ho
            simp only [Act.put, List.setIfInBounds_toArray, List.set_cons_zero, List.set_cons_succ] at hK
            clear hs hal hts
            go_simp
            all_goals (try go_wp2_with (first | (go_at_call 50; (first | with_reducible refine (endOf_d _ hp ha hk).mono ?_ | with_reducible refine (endOf_d _ hp hb_ hk).mono ?_); rintro e w' ⟨rfl, hb1⟩) | (go_at_call 49; refine (piece_00 _ hp ha hb_ hk h1 h2).mono ?_; rintro e w' ⟨rfl, hb1⟩)))
            all_goals first | exact hK.out _ _ rfl (bl_refl _) | exact hK.out _ _ rfl (by assumption) | exact hK.out _ _ (by assumption) (by assumption)
          · cases ho
            have e8 : s 8 = _ := hs 8 (by decide) rfl rfl (by kernel_rfl)
            simp only [e8] at hK ⊢
            simp only [Act.put, List.setIfInBounds_toArray, List.set_cons_zero, List.set_cons_succ] at hK
            clear hs hal hts
            go_simp
            all_goals (try go_wp2_with (first | (go_at_call 50; (first | with_reducible refine (endOf_d _ hp ha hk).mono ?_ | with_reducible refine (endOf_d _ hp hb_ hk).mono ?_); rintro e w' ⟨rfl, hb1⟩) | (go_at_call 49; refine (piece_00 _ hp ha hb_ hk h1 h2).mono ?_; rintro e w' ⟨rfl, hb1⟩)))
            all_goals first | exact hK.out _ _ rfl (bl_refl _) | exact hK.out _ _ rfl (by assumption) | exact hK.out _ _ (by assumption) (by assumption)
          · cases ho
            simp only [Act.put, List.setIfInBounds_toArray, List.set_cons_zero, List.set_cons_succ] at hK
            clear hs hal hts
            go_simp
            all_goals (try go_wp2_with (first | (go_at_call 50; (first | with_reducible refine (endOf_d _ hp ha hk).mono ?_ | with_reducible refine (endOf_d _ hp hb_ hk).mono ?_); rintro e w' ⟨rfl, hb1⟩) | (go_at_call 49; refine (piece_00 _ hp ha hb_ hk h1 h2).mono ?_; rintro e w' ⟨rfl, hb1⟩)))
            all_goals first | exact hK.out _ _ rfl (bl_refl _) | exact hK.out _ _ rfl (by assumption) | exact hK.out _ _ (by assumption) (by assumption)
          · cases ho
            have e10 : s 10 = _ := hs 10 (by decide) rfl rfl (by kernel_rfl)
            simp only [e10] at hK ⊢
            simp only [Act.put, List.setIfInBounds_toArray, List.set_cons_zero, List.set_cons_succ] at hK
            clear hs hal hts
            go_simp
            all_goals (try go_wp2_with (first | (go_at_call 50; (first | with_reducible refine (endOf_d _ hp ha hk).mono ?_ | with_reducible refine (endOf_d _ hp hb_ hk).mono ?_); rintro e w' ⟨rfl, hb1⟩) | (go_at_call 49; refine (piece_00 _ hp ha hb_ hk h1 h2).mono ?_; rintro e w' ⟨rfl, hb1⟩)))
            all_goals first | exact hK.out _ _ rfl (bl_refl _) | exact hK.out _ _ rfl (by assumption) | exact hK.out _ _ (by assumption) (by assumption)
          · cases ho
            have e9 : s 9 = _ := hs 9 (by decide) rfl rfl (by kernel_rfl)
            have e11 : s 11 = _ := hs 11 (by decide) rfl rfl (by kernel_rfl)
            simp only [e9, e11] at hK ⊢
            simp only [Act.put, List.setIfInBounds_toArray, List.set_cons_zero, List.set_cons_succ] at hK
            clear hs hal hts
            go_simp
            all_goals (try go_wp2_with (first | (go_at_call 50; (first | with_reducible refine (endOf_d _ hp ha hk).mono ?_ | with_reducible refine (endOf_d _ hp hb_ hk).mono ?_); rintro e w' ⟨rfl, hb1⟩) | (go_at_call 49; refine (piece_00 _ hp ha hb_ hk h1 h2).mono ?_; rintro e w' ⟨rfl, hb1⟩)))
            all_goals first | exact hK.out _ _ rfl (bl_refl _) | exact hK.out _ _ rfl (by assumption) | exact hK.out _ _ (by assumption) (by assumption)
          · cases ho
            have e7 : s 7 = _ := hs 7 (by decide) rfl rfl (by kernel_rfl)
            have e12 : s 12 = _ := hs 12 (by decide) rfl rfl (by kernel_rfl)
            simp only [e7, e12] at hK ⊢
            simp only [Act.put, List.setIfInBounds_toArray, List.set_cons_zero, List.set_cons_succ] at hK
            clear hs hal hts
            go_simp
            all_goals (try go_wp2_with (first | (go_at_call 50; (first | with_reducible refine (endOf_d _ hp ha hk).mono ?_ | with_reducible refine (endOf_d _ hp hb_ hk).mono ?_); rintro e w' ⟨rfl, hb1⟩) | (go_at_call 49; refine (piece_00 _ hp ha hb_ hk h1 h2).mono ?_; rintro e w' ⟨rfl, hb1⟩)))
            all_goals first | exact hK.out _ _ rfl (bl_refl _) | exact hK.out _ _ rfl (by assumption) | exact hK.out _ _ (by assumption) (by assumption)
          · cases ho
            have e13 : s 13 = _ := hs 13 (by decide) rfl rfl (by kernel_rfl)
            simp only [e13] at hK ⊢
            simp only [Act.put, List.setIfInBounds_toArray, List.set_cons_zero, List.set_cons_succ] at hK
            clear hs hal hts
            go_simp
            all_goals (try go_wp2_with (first | (go_at_call 50; (first | with_reducible refine (endOf_d _ hp ha hk).mono ?_ | with_reducible refine (endOf_d _ hp hb_ hk).mono ?_); rintro e w' ⟨rfl, hb1⟩) | (go_at_call 49; refine (piece_00 _ hp ha hb_ hk h1 h2).mono ?_; rintro e w' ⟨rfl, hb1⟩)))
            all_goals first | exact hK.out _ _ rfl (bl_refl _) | exact hK.out _ _ rfl (by assumption) | exact hK.out _ _ (by assumption) (by assumption)
          · cases ho
            have e6 : s 6 = _ := hs 6 (by decide) rfl rfl (by kernel_rfl)
            have e14 : s 14 = _ := hs 14 (by decide) rfl rfl (by kernel_rfl)
            simp only [e6, e14] at hK ⊢
            simp only [Act.put, List.setIfInBounds_toArray, List.set_cons_zero, List.set_cons_succ] at hK
            clear hs hal hts
            go_simp
            all_goals (try go_wp2_with (first | (go_at_call 50; (first | with_reducible refine (endOf_d _ hp ha hk).mono ?_ | with_reducible refine (endOf_d _ hp hb_ hk).mono ?_); rintro e w' ⟨rfl, hb1⟩) | (go_at_call 49; refine (piece_00 _ hp ha hb_ hk h1 h2).mono ?_; rintro e w' ⟨rfl, hb1⟩)))
            all_goals first | exact hK.out _ _ rfl (bl_refl _) | exact hK.out _ _ rfl (by assumption) | exact hK.out _ _ (by assumption) (by assumption)
          · cases ho
            have e5 : s 5 = _ := hs 5 (by decide) rfl rfl (by kernel_rfl)
            have e15 : s 15 = _ := hs 15 (by decide) rfl rfl (by kernel_rfl)
            simp only [e5, e15] at hK ⊢
            simp only [Act.put, List.setIfInBounds_toArray, List.set_cons_zero, List.set_cons_succ] at hK
            clear hs hal hts
            go_simp
            all_goals (try go_wp2_with (first | (go_at_call 50; (first | with_reducible refine (endOf_d _ hp ha hk).mono ?_ | with_reducible refine (endOf_d _ hp hb_ hk).mono ?_); rintro e w' ⟨rfl, hb1⟩) | (go_at_call 49; refine (piece_00 _ hp ha hb_ hk h1 h2).mono ?_; rintro e w' ⟨rfl, hb1⟩)))
            all_goals first | exact hK.out _ _ rfl (bl_refl _) | exact hK.out _ _ rfl (by assumption) | exact hK.out _ _ (by assumption) (by assumption)
          · cases ho
            have e16 : s 16 = _ := hs 16 (by decide) rfl rfl (by kernel_rfl)
            simp only [e16] at hK ⊢
            simp only [Act.put, List.setIfInBounds_toArray, List.set_cons_zero, List.set_cons_succ] at hK
            clear hs hal hts
            go_simp
            all_goals (try go_wp2_with (first | (go_at_call 50; (first | with_reducible refine (endOf_d _ hp ha hk).mono ?_ | with_reducible refine (endOf_d _ hp hb_ hk).mono ?_); rintro e w' ⟨rfl, hb1⟩) | (go_at_call 49; refine (piece_00 _ hp ha hb_ hk h1 h2).mono ?_; rintro e w' ⟨rfl, hb1⟩)))
            all_goals first | exact hK.out _ _ rfl (bl_refl _) | exact hK.out _ _ rfl (by assumption) | exact hK.out _ _ (by assumption) (by assumption)
          · cases ho
            have e17 : s 17 = _ := hs 17 (by decide) rfl rfl (by kernel_rfl)
            simp only [e17] at hK ⊢
            simp only [Act.put, List.setIfInBounds_toArray, List.set_cons_zero, List.set_cons_succ] at hK
            clear hs hal hts
            go_simp
            all_goals (try go_wp2_with (first | (go_at_call 50; (first | with_reducible refine (endOf_d _ hp ha hk).mono ?_ | with_reducible refine (endOf_d _ hp hb_ hk).mono ?_); rintro e w' ⟨rfl, hb1⟩) | (go_at_call 49; refine (piece_00 _ hp ha hb_ hk h1 h2).mono ?_; rintro e w' ⟨rfl, hb1⟩)))
            all_goals first | exact hK.out _ _ rfl (bl_refl _) | exact hK.out _ _ rfl (by assumption) | exact hK.out _ _ (by assumption) (by assumption)
          · cases ho
            have e17 : s 17 = _ := hs 17 (by decide) rfl rfl (by kernel_rfl)
            simp only [e17] at hK ⊢
            simp only [Act.put, List.setIfInBounds_toArray, List.set_cons_zero, List.set_cons_succ] at hK
            clear hs hal hts
            go_simp
            all_goals (try go_wp2_with (first | (go_at_call 50; (first | with_reducible refine (endOf_d _ hp ha hk).mono ?_ | with_reducible refine (endOf_d _ hp hb_ hk).mono ?_); rintro e w' ⟨rfl, hb1⟩) | (go_at_call 49; refine (piece_00 _ hp ha hb_ hk h1 h2).mono ?_; rintro e w' ⟨rfl, hb1⟩)))
            all_goals first | exact hK.out _ _ rfl (bl_refl _) | exact hK.out _ _ rfl (by assumption) | exact hK.out _ _ (by assumption) (by assumption)
          · cases (show some _ = none from hal)
          · cases (show some _ = none from hts)
          · cases ho
            have e19 : s 19 = _ := hs 19 (by decide) rfl rfl (by kernel_rfl)
            simp only [e19] at hK ⊢
            simp only [Act.put, List.setIfInBounds_toArray, List.set_cons_zero, List.set_cons_succ] at hK
            clear hs hal hts
            go_simp
            all_goals (try go_wp2_with (first | (go_at_call 50; (first | with_reducible refine (endOf_d _ hp ha hk).mono ?_ | with_reducible refine (endOf_d _ hp hb_ hk).mono ?_); rintro e w' ⟨rfl, hb1⟩) | (go_at_call 49; refine (piece_00 _ hp ha hb_ hk h1 h2).mono ?_; rintro e w' ⟨rfl, hb1⟩)))
            all_goals first | exact hK.out _ _ rfl (bl_refl _) | exact hK.out _ _ rfl (by assumption) | exact hK.out _ _ (by assumption) (by assumption)
        case ht_wn =>
          intro s hs W hb hJ
          have e0 : s 0 = _ := hs 0 (by decide) rfl rfl
          have e1 : s 1 = _ := hs 1 (by decide) rfl rfl
          have e2 : s 2 = _ := hs 2 (by decide) rfl rfl
          have e3 : s 3 = _ := hs 3 (by decide) rfl rfl
          have e4 : s 4 = _ := hs 4 (by decide) rfl rfl
          have e5 : s 5 = _ := hs 5 (by decide) rfl rfl
          have e6 : s 6 = _ := hs 6 (by decide) rfl rfl
          have e7 : s 7 = _ := hs 7 (by decide) rfl rfl
          have e8 : s 8 = _ := hs 8 (by decide) rfl rfl
          have e9 : s 9 = _ := hs 9 (by decide) rfl rfl
          have e10 : s 10 = _ := hs 10 (by decide) rfl rfl
          have e11 : s 11 = _ := hs 11 (by decide) rfl rfl
          have e12 : s 12 = _ := hs 12 (by decide) rfl rfl
          have e13 : s 13 = _ := hs 13 (by decide) rfl rfl
          have e14 : s 14 = _ := hs 14 (by decide) rfl rfl
          have e15 : s 15 = _ := hs 15 (by decide) rfl rfl
          have e16 : s 16 = _ := hs 16 (by decide) rfl rfl
          have e17 : s 17 = _ := hs 17 (by decide) rfl rfl
          have e18 : s 18 = _ := hs 18 (by decide) rfl rfl
          have e19 : s 19 = _ := hs 19 (by decide) rfl rfl
          have e22 : s 22 = _ := hs 22 (by decide) rfl rfl
          obtain ⟨p20, e20, n20, l20, cl20⟩ := hJ.1 20 _ _ (by decide) rfl rfl
          have k_p20_0 : W.cell? ⟨p20, 0, none⟩ = some (cellAt (s 18) 0) := cl20 0 (by decide)
          have k_p20_1 : W.cell? ⟨p20, 1, none⟩ = some (cellAt (s 18) 1) := cl20 1 (by decide)
          have k_p20_2 : W.cell? ⟨p20, 2, none⟩ = some (cellAt (s 18) 2) := cl20 2 (by decide)
          have k_p20_3 : W.cell? ⟨p20, 3, none⟩ = some (cellAt (s 18) 3) := cl20 3 (by decide)
          have k_p20_4 : W.cell? ⟨p20, 4, none⟩ = some (cellAt (s 18) 4) := cl20 4 (by decide)
          have k_p20_5 : W.cell? ⟨p20, 5, none⟩ = some (cellAt (s 18) 5) := cl20 5 (by decide)
          rw [e18] at k_p20_0 k_p20_1 k_p20_2 k_p20_3 k_p20_4 k_p20_5
          simp only [cellAt] at k_p20_0 k_p20_1 k_p20_2 k_p20_3 k_p20_4 k_p20_5
          simp only [e0, e1, e2, e3, e4, e5, e6, e7, e8, e9, e10, e11, e12, e13, e14, e15, e16, e17, e18, e19, e22, e20]
          clear hs hJ e0 e1 e2 e3 e4 e5 e6 e7 e8 e9 e10 e11 e12 e13 e14 e15 e16 e17 e18 e19 e22 e20 cl20
          have B1 := bl_trans hB hb
          go_wp2
          refine ⟨⟨kx + 1, m, by omega, by go_num, by rw [rowN9, hsd, List.append_nil]; exact hm, rfl, B1, by rw [rowN9, hsd, List.append_nil]; exact hR.bel hb, fun j hj => some_bel hb (EX j hj)⟩, by simp [intOf]; omega⟩
      · have hsd : sideL (nx, ny, fd) ((px L kx), (py L kx)) ((px L j), (py L j)) = [((cuX (nx, ny, fd) ((px L kx), (py L kx)) ((px L j), (py L j))), (cuY (nx, ny, fd) ((px L kx), (py L kx)) ((px L j), (py L j))))] := by
          unfold sideL
          rw [show wiB (nx, ny, fd) ((px L kx), (py L kx)) = false from h1, show wiB (nx, ny, fd) ((px L j), (py L j)) = true from h2]
          rfl
        go_wp2
        refine wp_region_new 23 rfl (fun i v => match i with | 0 => v = .agg #[.float .f64 nx, .float .f64 ny, .float .f64 fd] | 1 => v = .slice (some ⟨b, off, none⟩) n cap | 2 => v = .int .i64 (kx : Int) | 3 => v = .pointer (some ⟨b, off + kx * 2, none⟩) | 4 => v = .agg #[.float .f64 (px L kx), .float .f64 (py L kx)] | 5 => v = .agg #[.float .f64 (px L kx), .float .f64 (py L kx), .float .f64 (frK (nx, ny, fd) ((px L kx), (py L kx)))] | 6 => v = .agg #[.float .f64 nx, .float .f64 ny, .float .f64 fd] | 7 => v = .slice (some ⟨b, off, none⟩) n cap | 8 => v = .int .i64 (kx : Int) | 9 => v = .int .i64 ((kx : Int) + 1) | 10 => v = .slice (some ⟨b, off, none⟩) n cap | 11 => v = .int .i64 (n : Int) | 12 => v = .int .i64 (j : Int) | 13 => v = .pointer (some ⟨b, off + j * 2, none⟩) | 14 => v = .agg #[.float .f64 (px L j), .float .f64 (py L j)] | 15 => v = .agg #[.float .f64 (px L j), .float .f64 (py L j), .float .f64 (frK (nx, ny, fd) ((px L j), (py L j)))] | 16 => v = .tuple #[.agg #[.float .f64 (cuX (nx, ny, fd) ((px L kx), (py L kx)) ((px L j), (py L j))), .float .f64 (cuY (nx, ny, fd) ((px L kx), (py L kx)) ((px L j), (py L j))), .float .f64 (px L j), .float .f64 (py L j), .int .i64 2, .int .i64 1], .bool true] | 17 => v = .tuple #[.agg #[.float .f64 (cuX (nx, ny, fd) ((px L kx), (py L kx)) ((px L j), (py L j))), .float .f64 (cuY (nx, ny, fd) ((px L kx), (py L kx)) ((px L j), (py L j))), .float .f64 (px L j), .float .f64 (py L j), .int .i64 2, .int .i64 1], .bool true] | 18 => v = .agg #[.float .f64 (cuX (nx, ny, fd) ((px L kx), (py L kx)) ((px L j), (py L j))), .float .f64 (cuY (nx, ny, fd) ((px L kx), (py L kx)) ((px L j), (py L j))), .float .f64 (px L j), .float .f64 (py L j), .int .i64 2, .int .i64 1] | 19 => v = .bool true | 22 => v = .bool true | _ => False) [(20, #[.float .f64 0, .float .f64 0, .float .f64 0, .float .f64 0, .int .i64 0, .int .i64 0], 79)] [(21, 20, 18)] ?A_wn (by kernel_rfl) (by kernel_rfl) ?hA_wn ?ha_wn ?hst_wn ?hq_wn ?ht_wn
        case hA_wn =>
          intro s
          simp only [putL, dstO, Act.put, List.getElem?_toArray, List.getElem?_cons_zero, List.getElem?_cons_succ, Option.bind_some, List.setIfInBounds_toArray, List.set_cons_zero, List.set_cons_succ, if_true]
          all_goals exact rfl
        case ha_wn =>
          intro i o c ty hi ho hal B W K hK
          rcases (show i = 0 ∨ i = 1 ∨ i = 2 ∨ i = 3 ∨ i = 4 ∨ i = 5 ∨ i = 6 ∨ i = 7 ∨ i = 8 ∨ i = 9 ∨ i = 10 ∨ i = 11 ∨ i = 12 ∨ i = 13 ∨ i = 14 ∨ i = 15 ∨ i = 16 ∨ i = 17 ∨ i = 18 ∨ i = 19 ∨ i = 20 ∨ i = 21 ∨ i = 22 by omega) with rfl | rfl | rfl | rfl | rfl | rfl | rfl | rfl | rfl | rfl | rfl | rfl | rfl | rfl | rfl | rfl | rfl | rfl | rfl | rfl | rfl | rfl | rfl
          · cases (show none = some (c, ty) from hal)
          · cases (show none = some (c, ty) from hal)
          · cases (show none = some (c, ty) from hal)
          · cases (show none = some (c, ty) from hal)
          · cases (show none = some (c, ty) from hal)
          · cases (show none = some (c, ty) from hal)
          · cases (show none = some (c, ty) from hal)
          · cases (show none = some (c, ty) from hal)
          · cases (show none = some (c, ty) from hal)
          · cases (show none = some (c, ty) from hal)
          · cases (show none = some (c, ty) from hal)
          · cases (show none = some (c, ty) from hal)
          · cases (show none = some (c, ty) from hal)
          · cases (show none = some (c, ty) from hal)
          · cases (show none = some (c, ty) from hal)
          · cases (show none = some (c, ty) from hal)
          · cases (show none = some (c, ty) from hal)
          · cases (show none = some (c, ty) from hal)
          · cases (show none = some (c, ty) from hal)
          · cases (show none = some (c, ty) from hal)
          · cases ho; cases (show some (#[.float .f64 0, .float .f64 0, .float .f64 0, .float .f64 0, .int .i64 0, .int .i64 0], 79) = some (c, ty) from hal); go_simp; exact hK.out
          · cases (show none = some (c, ty) from hal)
          · cases (show none = some (c, ty) from hal)
        case hst_wn =>
          intro t o a d c ty hlt ho hts hal s hs W b eb hc hf K hK
          rcases (show t = 0 ∨ t = 1 ∨ t = 2 ∨ t = 3 ∨ t = 4 ∨ t = 5 ∨ t = 6 ∨ t = 7 ∨ t = 8 ∨ t = 9 ∨ t = 10 ∨ t = 11 ∨ t = 12 ∨ t = 13 ∨ t = 14 ∨ t = 15 ∨ t = 16 ∨ t = 17 ∨ t = 18 ∨ t = 19 ∨ t = 20 ∨ t = 21 ∨ t = 22 by omega) with rfl | rfl | rfl | rfl | rfl | rfl | rfl | rfl | rfl | rfl | rfl | rfl | rfl | rfl | rfl | rfl | rfl | rfl | rfl | rfl | rfl | rfl | rfl
          · cases (show none = some (a, d) from hts)
          · cases (show none = some (a, d) from hts)
          · cases (show none = some (a, d) from hts)
          · cases (show none = some (a, d) from hts)
          · cases (show none = some (a, d) from hts)
          · cases (show none = some (a, d) from hts)
          · cases (show none = some (a, d) from hts)
          · cases (show none = some (a, d) from hts)
          · cases (show none = some (a, d) from hts)
          · cases (show none = some (a, d) from hts)
          · cases (show none = some (a, d) from hts)
          · cases (show none = some (a, d) from hts)
          · cases (show none = some (a, d) from hts)
          · cases (show none = some (a, d) from hts)
          · cases (show none = some (a, d) from hts)
          · cases (show none = some (a, d) from hts)
          · cases (show none = some (a, d) from hts)
          · cases (show none = some (a, d) from hts)
          · cases (show none = some (a, d) from hts)
          · cases (show none = some (a, d) from hts)
          · cases (show none = some (a, d) from hts)
          · cases ho; cases (show some (20, 18) = some (a, d) from hts); cases (show some (#[.float .f64 0, .float .f64 0, .float .f64 0, .float .f64 0, .int .i64 0, .int .i64 0], 79) = some (c, ty) from hal)
            have e18 : s 18 = _ := hs 18 (by decide) rfl rfl (by kernel_rfl)
            obtain ⟨u0, hu0⟩ := Option.isSome_iff_exists.1 (hc 0 (by decide))
            obtain ⟨u1, hu1⟩ := Option.isSome_iff_exists.1 (hc 1 (by decide))
            obtain ⟨u2, hu2⟩ := Option.isSome_iff_exists.1 (hc 2 (by decide))
            obtain ⟨u3, hu3⟩ := Option.isSome_iff_exists.1 (hc 3 (by decide))
            obtain ⟨u4, hu4⟩ := Option.isSome_iff_exists.1 (hc 4 (by decide))
            obtain ⟨u5, hu5⟩ := Option.isSome_iff_exists.1 (hc 5 (by decide))
            simp only [eb, e18] at hK ⊢
            clear hs
            go_simp
            exact hK.out
          · cases (show none = some (a, d) from hts)
        case hq_wn =>
          intro i o hi hal hts ho s hs W hb K hK
          have uz0 := keep (bl_trans hB hb) z0_0; have uz1 := keep (bl_trans hB hb) z0_1; have uz2 := keep (bl_trans hB hb) z0_2; have ux0 := keep hb x0; have ux1 := keep hb x1; have ux2 := keep hb x2; have ux3 := keep hb x3; have lW := World.block_lt_of_cell? _ _ ux0; simp only at lW
          rcases (show i = 0 ∨ i = 1 ∨ i = 2 ∨ i = 3 ∨ i = 4 ∨ i = 5 ∨ i = 6 ∨ i = 7 ∨ i = 8 ∨ i = 9 ∨ i = 10 ∨ i = 11 ∨ i = 12 ∨ i = 13 ∨ i = 14 ∨ i = 15 ∨ i = 16 ∨ i = 17 ∨ i = 18 ∨ i = 19 ∨ i = 20 ∨ i = 21 ∨ i = 22 by omega) with rfl | rfl | rfl | rfl | rfl | rfl | rfl | rfl | rfl | rfl | rfl | rfl | rfl | rfl | rfl | rfl | rfl | rfl | rfl | rfl | rfl | rfl | rfl
          · cases ho
            simp only [Act.put, List.setIfInBounds_toArray, List.set_cons_zero, List.set_cons_succ] at hK
            clear hs hal hts
            go_simp
            all_goals (try go_wp2_with (first | (go_at_call 50; (first | with_reducible refine (endOf_d _ hp ha hk).mono ?_ | with_reducible refine (endOf_d _ hp hb_ hk).mono ?_); rintro e w' ⟨rfl, hb1⟩) | (go_at_call 49; refine (piece_01 _ hp ha hb_ hk h1 h2).mono ?_; rintro e w' ⟨rfl, hb1⟩)))
            all_goals first | exact hK.out _ _ rfl (bl_refl _) | exact hK.out _ _ rfl (by assumption) | exact hK.out _ _ (by assumption) (by assumption)
          · cases ho
            simp only [Act.put, List.setIfInBounds_toArray, List.set_cons_zero, List.set_cons_succ] at hK
            clear hs hal hts
            go_simp
            all_goals (try go_wp2_with (first | (go_at_call 50; (first | with_reducible refine (endOf_d _ hp ha hk).mono ?_ | with_reducible refine (endOf_d _ hp hb_ hk).mono ?_); rintro e w' ⟨rfl, hb1⟩) | (go_at_call 49; refine (piece_01 _ hp ha hb_ hk h1 h2).mono ?_; rintro e w' ⟨rfl, hb1⟩)))
            all_goals first | exact hK.out _ _ rfl (bl_refl _) | exact hK.out _ _ rfl (by assumption) | exact hK.out _ _ (by assumption) (by assumption)
          · cases ho
            simp only [Act.put, List.setIfInBounds_toArray, List.set_cons_zero, List.set_cons_succ] at hK
            clear hs hal hts
            go_simp
            all_goals (try go_wp2_with (first | (go_at_call 50; (first | with_reducible refine (endOf_d _ hp ha hk).mono ?_ | with_reducible refine (endOf_d _ hp hb_ hk).mono ?_); rintro e w' ⟨rfl, hb1⟩) | (go_at_call 49; refine (piece_01 _ hp ha hb_ hk h1 h2).mono ?_; rintro e w' ⟨rfl, hb1⟩)))
            all_goals first | exact hK.out _ _ rfl (bl_refl _) | exact hK.out _ _ rfl (by assumption) | exact hK.out _ _ (by assumption) (by assumption)
          · cases ho
            have e1 : s 1 = _ := hs 1 (by decide) rfl rfl (by kernel_rfl)
            have e2 : s 2 = _ := hs 2 (by decide) rfl rfl (by kernel_rfl)
            simp only [e1, e2] at hK ⊢
            simp only [Act.put, List.setIfInBounds_toArray, List.set_cons_zero, List.set_cons_succ] at hK
            clear hs hal hts
            go_simp
            all_goals (try go_wp2_with (first | (go_at_call 50; (first | with_reducible refine (endOf_d _ hp ha hk).mono ?_ | with_reducible refine (endOf_d _ hp hb_ hk).mono ?_); rintro e w' ⟨rfl, hb1⟩) | (go_at_call 49; refine (piece_01 _ hp ha hb_ hk h1 h2).mono ?_; rintro e w' ⟨rfl, hb1⟩)))
            all_goals first | exact hK.out _ _ rfl (bl_refl _) | exact hK.out _ _ rfl (by assumption) | exact hK.out _ _ (by assumption) (by assumption)
          · cases ho
            have e3 : s 3 = _ := hs 3 (by decide) rfl rfl (by kernel_rfl)
            simp only [e3] at hK ⊢
            simp only [Act.put, List.setIfInBounds_toArray, List.set_cons_zero, List.set_cons_succ] at hK
            clear hs hal hts
            go_simp
            all_goals (try go_wp2_with (first | (go_at_call 50; (first | with_reducible refine (endOf_d _ hp ha hk).mono ?_ | with_reducible refine (endOf_d _ hp hb_ hk).mono ?_); rintro e w' ⟨rfl, hb1⟩) | (go_at_call 49; refine (piece_01 _ hp ha hb_ hk h1 h2).mono ?_; rintro e w' ⟨rfl, hb1⟩)))
            all_goals first | exact hK.out _ _ rfl (bl_refl _) | exact hK.out _ _ rfl (by assumption) | exact hK.out _ _ (by assumption) (by assumption)
          · cases ho
            have e0 : s 0 = _ := hs 0 (by decide) rfl rfl (by kernel_rfl)
            have e4 : s 4 = _ := hs 4 (by decide) rfl rfl (by kernel_rfl)
            simp only [e0, e4] at hK ⊢
            simp only [Act.put, List.setIfInBounds_toArray, List.set_cons_zero, List.set_cons_succ] at hK
            clear hs hal hts
            go_simp
            all_goals (try go_wp2_with (first | (go_at_call 50; (first | with_reducible refine (endOf_d _ hp ha hk).mono ?_ | with_reducible refine (endOf_d _ hp hb_ hk).mono ?_); rintro e w' ⟨rfl, hb1⟩) | (go_at_call 49; refine (piece_01 _ hp ha hb_ hk h1 h2).mono ?_; rintro e w' ⟨rfl, hb1⟩)))
            all_goals first | exact hK.out _ _ rfl (bl_refl _) | exact hK.out _ _ rfl (by assumption) | exact hK.out _ _ (by assumption) (by assumption)
          · cases ho
            simp only [Act.put, List.setIfInBounds_toArray, List.set_cons_zero, List.set_cons_succ] at hK
            clear hs hal hts
            go_simp
            all_goals (try go_wp2_with (first | (go_at_call 50; (first | with_reducible refine (endOf_d _ hp ha hk).mono ?_ | with_reducible refine (endOf_d _ hp hb_ hk).mono ?_); rintro e w' ⟨rfl, hb1⟩) | (go_at_call 49; refine (piece_01 _ hp ha hb_ hk h1 h2).mono ?_; rintro e w' ⟨rfl, hb1⟩)))
            all_goals first | exact hK.out _ _ rfl (bl_refl _) | exact hK.out _ _ rfl (by assumption) | exact hK.out _ _ (by assumption) (by assumption)
          · cases ho
            simp only [Act.put, List.setIfInBounds_toArray, List.set_cons_zero, List.set_cons_succ] at hK
            clear hs hal hts
            go_simp
            all_goals (try go_wp2_with (first | (go_at_call 50; (first | with_reducible refine (endOf_d _ hp ha hk).mono ?_ | with_reducible refine (endOf_d _ hp hb_ hk).mono ?_); rintro e w' ⟨rfl, hb1⟩) | (go_at_call 49; refine (piece_01 _ hp ha hb_ hk h1 h2).mono ?_; rintro e w' ⟨rfl, hb1⟩)))
            all_goals first | exact hK.out _ _ rfl (bl_refl _) | exact hK.out _ _ rfl (by assumption) | exact hK.out _ _ (by assumption) (by assumption)
          · cases ho
            simp only [Act.put, List.setIfInBounds_toArray, List.set_cons_zero, List.set_cons_succ] at hK
            clear hs hal hts
            go_simp
            all_goals (try go_wp2_with (first | (go_at_call 50; (first | with_reducible refine (endOf_d _ hp ha hk).mono ?_ | with_reducible refine (endOf_d _ hp hb_ hk).mono ?_); rintro e w' ⟨rfl, hb1⟩) | (go_at_call 49; refine (piece_01 _ hp ha hb_ hk h1 h2).mono ?_; rintro e w' ⟨rfl, hb1⟩)))
            all_goals first | exact hK.out _ _ rfl (bl_refl _) | exact hK.out _ _ rfl (by assumption) | exact hK.out _ _ (by assumption) (by assumption)
          · cases ho
            have e8 : s 8 = _ := hs 8 (by decide) rfl rfl (by kernel_rfl)
            simp only [e8] at hK ⊢
            simp only [Act.put, List.setIfInBounds_toArray, List.set_cons_zero, List.set_cons_succ] at hK
            clear hs hal hts
            go_simp
            all_goals (try go_wp2_with (first | (go_at_call 50; (first | with_reducible refine (endOf_d _ hp ha hk).mono ?_ | with_reducible refine (endOf_d _ hp hb_ hk).mono ?_); rintro e w' ⟨rfl, hb1⟩) | (go_at_call 49; refine (piece_01 _ hp ha hb_ hk h1 h2).mono ?_; rintro e w' ⟨rfl, hb1⟩)))
            all_goals first | exact hK.out _ _ rfl (bl_refl _) | exact hK.out _ _ rfl (by assumption) | exact hK.out _ _ (by assumption) (by assumption)
          · cases ho
            simp only [Act.put, List.setIfInBounds_toArray, List.set_cons_zero, List.set_cons_succ] at hK
            clear hs hal hts
            go_simp
            all_goals (try go_wp2_with (first | (go_at_call 50; (first | with_reducible refine (endOf_d _ hp ha hk).mono ?_ | with_reducible refine (endOf_d _ hp hb_ hk).mono ?_); rintro e w' ⟨rfl, hb1⟩) | (go_at_call 49; refine (piece_01 _ hp ha hb_ hk h1 h2).mono ?_; rintro e w' ⟨rfl, hb1⟩)))
            all_goals first | exact hK.out _ _ rfl (bl_refl _) | exact hK.out _ _ rfl (by assumption) | exact hK.out _ _ (by assumption) (by assumption)
          · cases ho
            have e10 : s 10 = _ := hs 10 (by decide) rfl rfl (by kernel_rfl)
            simp only [e10] at hK ⊢
            simp only [Act.put, List.setIfInBounds_toArray, List.set_cons_zero, List.set_cons_succ] at hK
            clear hs hal hts
            go_simp
            all_goals (try go_wp2_with (first | (go_at_call 50; (first | with_reducible refine (endOf_d _ hp ha hk).mono ?_ | with_reducible refine (endOf_d _ hp hb_ hk).mono ?_); rintro e w' ⟨rfl, hb1⟩) | (go_at_call 49; refine (piece_01 _ hp ha hb_ hk h1 h2).mono ?_; rintro e w' ⟨rfl, hb1⟩)))
            all_goals first | exact hK.out _ _ rfl (bl_refl _) | exact hK.out _ _ rfl (by assumption) | exact hK.out _ _ (by assumption) (by assumption)
          · cases ho
            have e9 : s 9 = _ := hs 9 (by decide) rfl rfl (by kernel_rfl)
            have e11 : s 11 = _ := hs 11 (by decide) rfl rfl (by kernel_rfl)
            simp only [e9, e11] at hK ⊢
            simp only [Act.put, List.setIfInBounds_toArray, List.set_cons_zero, List.set_cons_succ] at hK
            clear hs hal hts
            go_simp
            all_goals (try go_wp2_with (first | (go_at_call 50; (first | with_reducible refine (endOf_d _ hp ha hk).mono ?_ | with_reducible refine (endOf_d _ hp hb_ hk).mono ?_); rintro e w' ⟨rfl, hb1⟩) | (go_at_call 49; refine (piece_01 _ hp ha hb_ hk h1 h2).mono ?_; rintro e w' ⟨rfl, hb1⟩)))
            all_goals first | exact hK.out _ _ rfl (bl_refl _) | exact hK.out _ _ rfl (by assumption) | exact hK.out _ _ (by assumption) (by assumption)
          · cases ho
            have e7 : s 7 = _ := hs 7 (by decide) rfl rfl (by kernel_rfl)
            have e12 : s 12 = _ := hs 12 (by decide) rfl rfl (by kernel_rfl)
            simp only [e7, e12] at hK ⊢
            simp only [Act.put, List.setIfInBounds_toArray, List.set_cons_zero, List.set_cons_succ] at hK
            clear hs hal hts
            go_simp
            all_goals (try go_wp2_with (first | (go_at_call 50; (first | with_reducible refine (endOf_d _ hp ha hk).mono ?_ | with_reducible refine (endOf_d _ hp hb_ hk).mono ?_); rintro e w' ⟨rfl, hb1⟩) | (go_at_call 49; refine (piece_01 _ hp ha hb_ hk h1 h2).mono ?_; rintro e w' ⟨rfl, hb1⟩)))
            all_goals first | exact hK.out _ _ rfl (bl_refl _) | exact hK.out _ _ rfl (by assumption) | exact hK.out _ _ (by assumption) (by assumption)
          · cases ho
            have e13 : s 13 = _ := hs 13 (by decide) rfl rfl (by kernel_rfl)
            simp only [e13] at hK ⊢
            simp only [Act.put, List.setIfInBounds_toArray, List.set_cons_zero, List.set_cons_succ] at hK
            clear hs hal hts
            go_simp
            all_goals (try go_wp2_with (first | (go_at_call 50; (first | with_reducible refine (endOf_d _ hp ha hk).mono ?_ | with_reducible refine (endOf_d _ hp hb_ hk).mono ?_); rintro e w' ⟨rfl, hb1⟩) | (go_at_call 49; refine (piece_01 _ hp ha hb_ hk h1 h2).mono ?_; rintro e w' ⟨rfl, hb1⟩)))
            all_goals first | exact hK.out _ _ rfl (bl_refl _) | exact hK.out _ _ rfl (by assumption) | exact hK.out _ _ (by assumption) (by assumption)
          · cases ho
            have e6 : s 6 = _ := hs 6 (by decide) rfl rfl (by kernel_rfl)
            have e14 : s 14 = _ := hs 14 (by decide) rfl rfl (by kernel_rfl)
            simp only [e6, e14] at hK ⊢
            simp only [Act.put, List.setIfInBounds_toArray, List.set_cons_zero, List.set_cons_succ] at hK
            clear hs hal hts
            go_simp
            all_goals (try go_wp2_with (first | (go_at_call 50; (first | with_reducible refine (endOf_d _ hp ha hk).mono ?_ | with_reducible refine (endOf_d _ hp hb_ hk).mono ?_); rintro e w' ⟨rfl, hb1⟩) | (go_at_call 49; refine (piece_01 _ hp ha hb_ hk h1 h2).mono ?_; rintro e w' ⟨rfl, hb1⟩)))
            all_goals first | exact hK.out _ _ rfl (bl_refl _) | exact hK.out _ _ rfl (by assumption) | exact hK.out _ _ (by assumption) (by assumption)
          · cases ho
            have e5 : s 5 = _ := hs 5 (by decide) rfl rfl (by kernel_rfl)
            have e15 : s 15 = _ := hs 15 (by decide) rfl rfl (by kernel_rfl)
            simp only [e5, e15] at hK ⊢
            simp only [Act.put, List.setIfInBounds_toArray, List.set_cons_zero, List.set_cons_succ] at hK
            clear hs hal hts
            go_simp
            all_goals (try go_wp2_with (first | (go_at_call 50; (first | with_reducible refine (endOf_d _ hp ha hk).mono ?_ | with_reducible refine (endOf_d _ hp hb_ hk).mono ?_); rintro e w' ⟨rfl, hb1⟩) | (go_at_call 49; refine (piece_01 _ hp ha hb_ hk h1 h2).mono ?_; rintro e w' ⟨rfl, hb1⟩)))
            all_goals first | exact hK.out _ _ rfl (bl_refl _) | exact hK.out _ _ rfl (by assumption) | exact hK.out _ _ (by assumption) (by assumption)
          · cases ho
            have e16 : s 16 = _ := hs 16 (by decide) rfl rfl (by kernel_rfl)
            simp only [e16] at hK ⊢
            simp only [Act.put, List.setIfInBounds_toArray, List.set_cons_zero, List.set_cons_succ] at hK
            clear hs hal hts
            go_simp
            all_goals (try go_wp2_with (first | (go_at_call 50; (first | with_reducible refine (endOf_d _ hp ha hk).mono ?_ | with_reducible refine (endOf_d _ hp hb_ hk).mono ?_); rintro e w' ⟨rfl, hb1⟩) | (go_at_call 49; refine (piece_01 _ hp ha hb_ hk h1 h2).mono ?_; rintro e w' ⟨rfl, hb1⟩)))
            all_goals first | exact hK.out _ _ rfl (bl_refl _) | exact hK.out _ _ rfl (by assumption) | exact hK.out _ _ (by assumption) (by assumption)
          · cases ho
            have e17 : s 17 = _ := hs 17 (by decide) rfl rfl (by kernel_rfl)
            simp only [e17] at hK ⊢
            simp only [Act.put, List.setIfInBounds_toArray, List.set_cons_zero, List.set_cons_succ] at hK
            clear hs hal hts
            go_simp
            all_goals (try go_wp2_with (first | (go_at_call 50; (first | with_reducible refine (endOf_d _ hp ha hk).mono ?_ | with_reducible refine (endOf_d _ hp hb_ hk).mono ?_); rintro e w' ⟨rfl, hb1⟩) | (go_at_call 49; refine (piece_01 _ hp ha hb_ hk h1 h2).mono ?_; rintro e w' ⟨rfl, hb1⟩)))
            all_goals first | exact hK.out _ _ rfl (bl_refl _) | exact hK.out _ _ rfl (by assumption) | exact hK.out _ _ (by assumption) (by assumption)
          · cases ho
            have e17 : s 17 = _ := hs 17 (by decide) rfl rfl (by kernel_rfl)
            simp only [e17] at hK ⊢
            simp only [Act.put, List.setIfInBounds_toArray, List.set_cons_zero, List.set_cons_succ] at hK
            clear hs hal hts
            go_simp
            all_goals (try go_wp2_with (first | (go_at_call 50; (first | with_reducible refine (endOf_d _ hp ha hk).mono ?_ | with_reducible refine (endOf_d _ hp hb_ hk).mono ?_); rintro e w' ⟨rfl, hb1⟩) | (go_at_call 49; refine (piece_01 _ hp ha hb_ hk h1 h2).mono ?_; rintro e w' ⟨rfl, hb1⟩)))
            all_goals first | exact hK.out _ _ rfl (bl_refl _) | exact hK.out _ _ rfl (by assumption) | exact hK.out _ _ (by assumption) (by assumption)
          · cases (show some _ = none from hal)
          · cases (show some _ = none from hts)
          · cases ho
            have e19 : s 19 = _ := hs 19 (by decide) rfl rfl (by kernel_rfl)
            simp only [e19] at hK ⊢
            simp only [Act.put, List.setIfInBounds_toArray, List.set_cons_zero, List.set_cons_succ] at hK
            clear hs hal hts
            go_simp
            all_goals (try go_wp2_with (first | (go_at_call 50; (first | with_reducible refine (endOf_d _ hp ha hk).mono ?_ | with_reducible refine (endOf_d _ hp hb_ hk).mono ?_); rintro e w' ⟨rfl, hb1⟩) | (go_at_call 49; refine (piece_01 _ hp ha hb_ hk h1 h2).mono ?_; rintro e w' ⟨rfl, hb1⟩)))
            all_goals first | exact hK.out _ _ rfl (bl_refl _) | exact hK.out _ _ rfl (by assumption) | exact hK.out _ _ (by assumption) (by assumption)
        case ht_wn =>
          intro s hs W hb hJ
          have e0 : s 0 = _ := hs 0 (by decide) rfl rfl
          have e1 : s 1 = _ := hs 1 (by decide) rfl rfl
          have e2 : s 2 = _ := hs 2 (by decide) rfl rfl
          have e3 : s 3 = _ := hs 3 (by decide) rfl rfl
          have e4 : s 4 = _ := hs 4 (by decide) rfl rfl
          have e5 : s 5 = _ := hs 5 (by decide) rfl rfl
          have e6 : s 6 = _ := hs 6 (by decide) rfl rfl
          have e7 : s 7 = _ := hs 7 (by decide) rfl rfl
          have e8 : s 8 = _ := hs 8 (by decide) rfl rfl
          have e9 : s 9 = _ := hs 9 (by decide) rfl rfl
          have e10 : s 10 = _ := hs 10 (by decide) rfl rfl
          have e11 : s 11 = _ := hs 11 (by decide) rfl rfl
          have e12 : s 12 = _ := hs 12 (by decide) rfl rfl
          have e13 : s 13 = _ := hs 13 (by decide) rfl rfl
          have e14 : s 14 = _ := hs 14 (by decide) rfl rfl
          have e15 : s 15 = _ := hs 15 (by decide) rfl rfl
          have e16 : s 16 = _ := hs 16 (by decide) rfl rfl
          have e17 : s 17 = _ := hs 17 (by decide) rfl rfl
          have e18 : s 18 = _ := hs 18 (by decide) rfl rfl
          have e19 : s 19 = _ := hs 19 (by decide) rfl rfl
          have e22 : s 22 = _ := hs 22 (by decide) rfl rfl
          obtain ⟨p20, e20, n20, l20, cl20⟩ := hJ.1 20 _ _ (by decide) rfl rfl
          have k_p20_0 : W.cell? ⟨p20, 0, none⟩ = some (cellAt (s 18) 0) := cl20 0 (by decide)
          have k_p20_1 : W.cell? ⟨p20, 1, none⟩ = some (cellAt (s 18) 1) := cl20 1 (by decide)
          have k_p20_2 : W.cell? ⟨p20, 2, none⟩ = some (cellAt (s 18) 2) := cl20 2 (by decide)
          have k_p20_3 : W.cell? ⟨p20, 3, none⟩ = some (cellAt (s 18) 3) := cl20 3 (by decide)
          have k_p20_4 : W.cell? ⟨p20, 4, none⟩ = some (cellAt (s 18) 4) := cl20 4 (by decide)
          have k_p20_5 : W.cell? ⟨p20, 5, none⟩ = some (cellAt (s 18) 5) := cl20 5 (by decide)
          rw [e18] at k_p20_0 k_p20_1 k_p20_2 k_p20_3 k_p20_4 k_p20_5
          simp only [cellAt] at k_p20_0 k_p20_1 k_p20_2 k_p20_3 k_p20_4 k_p20_5
          simp only [e0, e1, e2, e3, e4, e5, e6, e7, e8, e9, e10, e11, e12, e13, e14, e15, e16, e17, e18, e19, e22, e20]
          clear hs hJ e0 e1 e2 e3 e4 e5 e6 e7 e8 e9 e10 e11 e12 e13 e14 e15 e16 e17 e18 e19 e22 e20 cl20
          have B1 := bl_trans hB hb
          have lG : w.heap.size + 1 < W.heap.size := Nat.lt_of_lt_of_le (by simpa using World.block_lt_of_cell? _ _ (Option.isSome_iff_exists.1 (EX 0 (by omega))).choose_spec) hb.size
          have fz0 : ∀ o, W.frozen? ⟨w.heap.size + 1, o, none⟩ = false := fun o => (B1.2 _).trans (fresh_frozen (by simp))
          have hne : p20 ≠ w.heap.size + 1 := by have := (show w.heap.size + 1 < wr.heap.size by simpa using World.block_lt_of_cell? _ _ (Option.isSome_iff_exists.1 (EX 0 (by omega))).choose_spec); omega
          have BX0 : Bel W ((W.alloc (.cells #[.float .f64 (cuX (nx, ny, fd) ((px L kx), (py L kx)) ((px L j), (py L j))), .float .f64 (cuY (nx, ny, fd) ((px L kx), (py L kx)) ((px L j), (py L j)))] 24)).alloc (.cells #[.float .f64 (cuX (nx, ny, fd) ((px L kx), (py L kx)) ((px L j), (py L j))), .float .f64 (cuY (nx, ny, fd) ((px L kx), (py L kx)) ((px L j), (py L j)))] 24)) := bl_alloc (bl_alloc (bl_refl _) _ _) _ _
          have zX0 : ((W.alloc (.cells #[.float .f64 (cuX (nx, ny, fd) ((px L kx), (py L kx)) ((px L j), (py L j))), .float .f64 (cuY (nx, ny, fd) ((px L kx), (py L kx)) ((px L j), (py L j)))] 24)).alloc (.cells #[.float .f64 (cuX (nx, ny, fd) ((px L kx), (py L kx)) ((px L j), (py L j))), .float .f64 (cuY (nx, ny, fd) ((px L kx), (py L kx)) ((px L j), (py L j)))] 24)).heap.size = W.heap.size + 1 + 1 := by simp only [World.size_alloc]
          have hfX0 : ∀ o, ((W.alloc (.cells #[.float .f64 (cuX (nx, ny, fd) ((px L kx), (py L kx)) ((px L j), (py L j))), .float .f64 (cuY (nx, ny, fd) ((px L kx), (py L kx)) ((px L j), (py L j)))] 24)).alloc (.cells #[.float .f64 (cuX (nx, ny, fd) ((px L kx), (py L kx)) ((px L j), (py L j))), .float .f64 (cuY (nx, ny, fd) ((px L kx), (py L kx)) ((px L j), (py L j)))] 24)).frozen? ⟨w.heap.size + 1, o, none⟩ = false := fun o => (BX0.2 _).trans (fz0 o)
          obtain ⟨w2, vA0, vB0, hw0, cA0, cB0, fB0, RS0, EX0, FA0, SZ0, BE0⟩ := push9 (WX := ((W.alloc (.cells #[.float .f64 (cuX (nx, ny, fd) ((px L kx), (py L kx)) ((px L j), (py L j))), .float .f64 (cuY (nx, ny, fd) ((px L kx), (py L kx)) ((px L j), (py L j)))] 24)).alloc (.cells #[.float .f64 (cuX (nx, ny, fd) ((px L kx), (py L kx)) ((px L j), (py L j))), .float .f64 (cuY (nx, ny, fd) ((px L kx), (py L kx)) ((px L j), (py L j)))] 24))) (g := w.heap.size + 1) (R := (rowN (nx, ny, fd) L kx)) (x := (cuX (nx, ny, fd) ((px L kx), (py L kx)) ((px L j), (py L j)))) (y := (cuY (nx, ny, fd) ((px L kx), (py L kx)) ((px L j), (py L j)))) (N := 2 * n) hm ((hR.bel hb).bel BX0) (fun j hj => some_bel BX0 (some_bel hb (EX j hj))) (by omega) hfX0
          have kk4 := keep (bl_alloc (bl_refl W) #[.float .f64 (cuX (nx, ny, fd) ((px L kx), (py L kx)) ((px L j), (py L j))), .float .f64 (cuY (nx, ny, fd) ((px L kx), (py L kx)) ((px L j), (py L j)))] 24) k_p20_4
          have kk5 := FA0 _ _ _ hne (keep BX0 k_p20_5)
          have BW2 := BE0 _ (bl_trans B1 BX0) (by simp)
          have kk6 := keep (bl_alloc (bl_refl w2) #[.float .f64 (px L j), .float .f64 (py L j)] 24) kk5
          have BW3 : Bel (w.alloc (.cells #[.float .f64 nx, .float .f64 ny, .float .f64 fd] 26)) (w2.alloc (.cells #[.float .f64 (px L j), .float .f64 (py L j)] 24)) := bl_alloc BW2 _ _
          have qi0 : ∀ X : World, (Instr.index 76 (.agg #[.float .f64 (cuX (nx, ny, fd) ((px L kx), (py L kx)) ((px L j), (py L j))), .float .f64 (cuY (nx, ny, fd) ((px L kx), (py L kx)) ((px L j), (py L j))), .float .f64 (px L j), .float .f64 (py L j)]) (.int .i64 0)).run Try.prog X = .ok (.agg #[.float .f64 (cuX (nx, ny, fd) ((px L kx), (py L kx)) ((px L j), (py L j))), .float .f64 (cuY (nx, ny, fd) ((px L kx), (py L kx)) ((px L j), (py L j)))]) X := fun X => by kernel_rfl
          have qi1 : ∀ X : World, (Instr.index 76 (.agg #[.float .f64 (cuX (nx, ny, fd) ((px L kx), (py L kx)) ((px L j), (py L j))), .float .f64 (cuY (nx, ny, fd) ((px L kx), (py L kx)) ((px L j), (py L j))), .float .f64 (px L j), .float .f64 (py L j)]) (.int .i64 1)).run Try.prog X = .ok (.agg #[.float .f64 (px L j), .float .f64 (py L j)]) X := fun X => by kernel_rfl
          go_wp2
          refine wp_loop_rounds 3 ?_
          rw [rounds_succ]
          go_wp2
          rw [rounds_succ]
          go_wp2
          rw [rounds_succ]
          go_wp2
          exact ⟨⟨kx + 1, m + 1, by omega, by go_num, by rw [rowN9, hsd]; simp [hm], rfl, BW3, by rw [rowN9, hsd]; exact RS0.bel (bl_alloc (bl_refl _) _ _), fun j hj => some_bel (bl_alloc (bl_refl _) _ _) (EX0 j hj)⟩, by simp [intOf]; omega⟩
      · have hsd : sideL (nx, ny, fd) ((px L kx), (py L kx)) ((px L j), (py L j)) = [((px L kx), (py L kx)), ((cuX (nx, ny, fd) ((px L kx), (py L kx)) ((px L j), (py L j))), (cuY (nx, ny, fd) ((px L kx), (py L kx)) ((px L j), (py L j))))] := by
          unfold sideL
          rw [show wiB (nx, ny, fd) ((px L kx), (py L kx)) = true from h1, show wiB (nx, ny, fd) ((px L j), (py L j)) = false from h2]
          rfl
        go_wp2
        refine wp_region_new 23 rfl (fun i v => match i with | 0 => v = .agg #[.float .f64 nx, .float .f64 ny, .float .f64 fd] | 1 => v = .slice (some ⟨b, off, none⟩) n cap | 2 => v = .int .i64 (kx : Int) | 3 => v = .pointer (some ⟨b, off + kx * 2, none⟩) | 4 => v = .agg #[.float .f64 (px L kx), .float .f64 (py L kx)] | 5 => v = .agg #[.float .f64 (px L kx), .float .f64 (py L kx), .float .f64 (frK (nx, ny, fd) ((px L kx), (py L kx)))] | 6 => v = .agg #[.float .f64 nx, .float .f64 ny, .float .f64 fd] | 7 => v = .slice (some ⟨b, off, none⟩) n cap | 8 => v = .int .i64 (kx : Int) | 9 => v = .int .i64 ((kx : Int) + 1) | 10 => v = .slice (some ⟨b, off, none⟩) n cap | 11 => v = .int .i64 (n : Int) | 12 => v = .int .i64 (j : Int) | 13 => v = .pointer (some ⟨b, off + j * 2, none⟩) | 14 => v = .agg #[.float .f64 (px L j), .float .f64 (py L j)] | 15 => v = .agg #[.float .f64 (px L j), .float .f64 (py L j), .float .f64 (frK (nx, ny, fd) ((px L j), (py L j)))] | 16 => v = .tuple #[.agg #[.float .f64 (px L kx), .float .f64 (py L kx), .float .f64 (cuX (nx, ny, fd) ((px L kx), (py L kx)) ((px L j), (py L j))), .float .f64 (cuY (nx, ny, fd) ((px L kx), (py L kx)) ((px L j), (py L j))), .int .i64 0, .int .i64 2], .bool true] | 17 => v = .tuple #[.agg #[.float .f64 (px L kx), .float .f64 (py L kx), .float .f64 (cuX (nx, ny, fd) ((px L kx), (py L kx)) ((px L j), (py L j))), .float .f64 (cuY (nx, ny, fd) ((px L kx), (py L kx)) ((px L j), (py L j))), .int .i64 0, .int .i64 2], .bool true] | 18 => v = .agg #[.float .f64 (px L kx), .float .f64 (py L kx), .float .f64 (cuX (nx, ny, fd) ((px L kx), (py L kx)) ((px L j), (py L j))), .float .f64 (cuY (nx, ny, fd) ((px L kx), (py L kx)) ((px L j), (py L j))), .int .i64 0, .int .i64 2] | 19 => v = .bool true | 22 => v = .bool true | _ => False) [(20, #[.float .f64 0, .float .f64 0, .float .f64 0, .float .f64 0, .int .i64 0, .int .i64 0], 79)] [(21, 20, 18)] ?A_wn (by kernel_rfl) (by kernel_rfl) ?hA_wn ?ha_wn ?hst_wn ?hq_wn ?ht_wn
        case hA_wn =>
          intro s
          simp only [putL, dstO, Act.put, List.getElem?_toArray, List.getElem?_cons_zero, List.getElem?_cons_succ, Option.bind_some, List.setIfInBounds_toArray, List.set_cons_zero, List.set_cons_succ, if_true]
          all_goals exact rfl
        case ha_wn =>
          intro i o c ty hi ho hal B W K hK
          rcases (show i = 0 ∨ i = 1 ∨ i = 2 ∨ i = 3 ∨ i = 4 ∨ i = 5 ∨ i = 6 ∨ i = 7 ∨ i = 8 ∨ i = 9 ∨ i = 10 ∨ i = 11 ∨ i = 12 ∨ i = 13 ∨ i = 14 ∨ i = 15 ∨ i = 16 ∨ i = 17 ∨ i = 18 ∨ i = 19 ∨ i = 20 ∨ i = 21 ∨ i = 22 by omega) with rfl | rfl | rfl | rfl | rfl | rfl | rfl | rfl | rfl | rfl | rfl | rfl | rfl | rfl | rfl | rfl | rfl | rfl | rfl | rfl | rfl | rfl | rfl
          · cases (show none = some (c, ty) from hal)
          · cases (show none = some (c, ty) from hal)
          · cases (show none = some (c, ty) from hal)
          · cases (show none = some (c, ty) from hal)
          · cases (show none = some (c, ty) from hal)
          · cases (show none = some (c, ty) from hal)
          · cases (show none = some (c, ty) from hal)
          · cases (show none = some (c, ty) from hal)
          · cases (show none = some (c, ty) from hal)
          · cases (show none = some (c, ty) from hal)
          · cases (show none = some (c, ty) from hal)
          · cases (show none = some (c, ty) from hal)
          · cases (show none = some (c, ty) from hal)
          · cases (show none = some (c, ty) from hal)
          · cases (show none = some (c, ty) from hal)
          · cases (show none = some (c, ty) from hal)
          · cases (show none = some (c, ty) from hal)
          · cases (show none = some (c, ty) from hal)
          · cases (show none = some (c, ty) from hal)
          · cases (show none = some (c, ty) from hal)
          · cases ho; cases (show some (#[.float .f64 0, .float .f64 0, .float .f64 0, .float .f64 0, .int .i64 0, .int .i64 0], 79) = some (c, ty) from hal); go_simp; exact hK.out
          · cases (show none = some (c, ty) from hal)
          · cases (show none = some (c, ty) from hal)
        case hst_wn =>
          intro t o a d c ty hlt ho hts hal s hs W b eb hc hf K hK
          rcases (show t = 0 ∨ t = 1 ∨ t = 2 ∨ t = 3 ∨ t = 4 ∨ t = 5 ∨ t = 6 ∨ t = 7 ∨ t = 8 ∨ t = 9 ∨ t = 10 ∨ t = 11 ∨ t = 12 ∨ t = 13 ∨ t = 14 ∨ t = 15 ∨ t = 16 ∨ t = 17 ∨ t = 18 ∨ t = 19 ∨ t = 20 ∨ t = 21 ∨ t = 22 by omega) with rfl | rfl | rfl | rfl | rfl | rfl | rfl | rfl | rfl | rfl | rfl | rfl | rfl | rfl | rfl | rfl | rfl | rfl | rfl | rfl | rfl | rfl | rfl
          · cases (show none = some (a, d) from hts)
          · cases (show none = some (a, d) from hts)
          · cases (show none = some (a, d) from hts)
          · cases (show none = some (a, d) from hts)
          · cases (show none = some (a, d) from hts)
          · cases (show none = some (a, d) from hts)
          · cases (show none = some (a, d) from hts)
          · cases (show none = some (a, d) from hts)
          · cases (show none = some (a, d) from hts)
          · cases (show none = some (a, d) from hts)
          · cases (show none = some (a, d) from hts)
          · cases (show none = some (a, d) from hts)
          · cases (show none = some (a, d) from hts)
          · cases (show none = some (a, d) from hts)
          · cases (show none = some (a, d) from hts)
          · cases (show none = some (a, d) from hts)
          · cases (show none = some (a, d) from hts)
          · cases (show none = some (a, d) from hts)
          · cases (show none = some (a, d) from hts)
          · cases (show none = some (a, d) from hts)
          · cases (show none = some (a, d) from hts)
          · cases ho; cases (show some (20, 18) = some (a, d) from hts); cases (show some (#[.float .f64 0, .float .f64 0, .float .f64 0, .float .f64 0, .int .i64 0, .int .i64 0], 79) = some (c, ty) from hal)
            have e18 : s 18 = _ := hs 18 (by decide) rfl rfl (by kernel_rfl)
            obtain ⟨u0, hu0⟩ := Option.isSome_iff_exists.1 (hc 0 (by decide))
            obtain ⟨u1, hu1⟩ := Option.isSome_iff_exists.1 (hc 1 (by decide))
            obtain ⟨u2, hu2⟩ := Option.isSome_iff_exists.1 (hc 2 (by decide))
            obtain ⟨u3, hu3⟩ := Option.isSome_iff_exists.1 (hc 3 (by decide))
            obtain ⟨u4, hu4⟩ := Option.isSome_iff_exists.1 (hc 4 (by decide))
            obtain ⟨u5, hu5⟩ := Option.isSome_iff_exists.1 (hc 5 (by decide))
            simp only [eb, e18] at hK ⊢
            clear hs
            go_simp
            exact hK.out
          · cases (show none = some (a, d) from hts)
        case hq_wn =>
          intro i o hi hal hts ho s hs W hb K hK
          have uz0 := keep (bl_trans hB hb) z0_0; have uz1 := keep (bl_trans hB hb) z0_1; have uz2 := keep (bl_trans hB hb) z0_2; have ux0 := keep hb x0; have ux1 := keep hb x1; have ux2 := keep hb x2; have ux3 := keep hb x3; have lW := World.block_lt_of_cell? _ _ ux0; simp only at lW
          rcases (show i = 0 ∨ i = 1 ∨ i = 2 ∨ i = 3 ∨ i = 4 ∨ i = 5 ∨ i = 6 ∨ i = 7 ∨ i = 8 ∨ i = 9 ∨ i = 10 ∨ i = 11 ∨ i = 12 ∨ i = 13 ∨ i = 14 ∨ i = 15 ∨ i = 16 ∨ i = 17 ∨ i = 18 ∨ i = 19 ∨ i = 20 ∨ i = 21 ∨ i = 22 by omega) with rfl | rfl | rfl | rfl | rfl | rfl | rfl | rfl | rfl | rfl | rfl | rfl | rfl | rfl | rfl | rfl | rfl | rfl | rfl | rfl | rfl | rfl | rfl
          · cases ho
            simp only [Act.put, List.setIfInBounds_toArray, List.set_cons_zero, List.set_cons_succ] at hK
            clear hs hal hts
            go_simp
            all_goals (try go_wp2_with (first | (go_at_call 50; (first | with_reducible refine (endOf_d _ hp ha hk).mono ?_ | with_reducible refine (endOf_d _ hp hb_ hk).mono ?_); rintro e w' ⟨rfl, hb1⟩) | (go_at_call 49; refine (piece_10 _ hp ha hb_ hk h1 h2).mono ?_; rintro e w' ⟨rfl, hb1⟩)))
            all_goals first | exact hK.out _ _ rfl (bl_refl _) | exact hK.out _ _ rfl (by assumption) | exact hK.out _ _ (by assumption) (by assumption)
          · cases ho
            simp only [Act.put, List.setIfInBounds_toArray, List.set_cons_zero, List.set_cons_succ] at hK
            clear hs hal hts
            go_simp
            all_goals (try go_wp2_with (first | (go_at_call 50; (first | with_reducible refine (endOf_d _ hp ha hk).mono ?_ | with_reducible refine (endOf_d _ hp hb_ hk).mono ?_); rintro e w' ⟨rfl, hb1⟩) | (go_at_call 49; refine (piece_10 _ hp ha hb_ hk h1 h2).mono ?_; rintro e w' ⟨rfl, hb1⟩)))
            all_goals first | exact hK.out _ _ rfl (bl_refl _) | exact hK.out _ _ rfl (by assumption) | exact hK.out _ _ (by assumption) (by assumption)
          · cases ho
            simp only [Act.put, List.setIfInBounds_toArray, List.set_cons_zero, List.set_cons_succ] at hK
            clear hs hal hts
            go_simp
            all_goals (try go_wp2_with (first | (go_at_call 50; (first | with_reducible refine (endOf_d _ hp ha hk).mono ?_ | with_reducible refine (endOf_d _ hp hb_ hk).mono ?_); rintro e w' ⟨rfl, hb1⟩) | (go_at_call 49; refine (piece_10 _ hp ha hb_ hk h1 h2).mono ?_; rintro e w' ⟨rfl, hb1⟩)))
            all_goals first | exact hK.out _ _ rfl (bl_refl _) | exact hK.out _ _ rfl (by assumption) | exact hK.out _ _ (by assumption) (by assumption)
          · cases ho
            have e1 : s 1 = _ := hs 1 (by decide) rfl rfl (by kernel_rfl)
            have e2 : s 2 = _ := hs 2 (by decide) rfl rfl (by kernel_rfl)
            simp only [e1, e2] at hK ⊢
            simp only [Act.put, List.setIfInBounds_toArray, List.set_cons_zero, List.set_cons_succ] at hK
            clear hs hal hts
            go_simp
            all_goals (try go_wp2_with (first | (go_at_call 50; (first | with_reducible refine (endOf_d _ hp ha hk).mono ?_ | with_reducible refine (endOf_d _ hp hb_ hk).mono ?_); rintro e w' ⟨rfl, hb1⟩) | (go_at_call 49; refine (piece_10 _ hp ha hb_ hk h1 h2).mono ?_; rintro e w' ⟨rfl, hb1⟩)))
            all_goals first | exact hK.out _ _ rfl (bl_refl _) | exact hK.out _ _ rfl (by assumption) | exact hK.out _ _ (by assumption) (by assumption)
          · cases ho
            have e3 : s 3 = _ := hs 3 (by decide) rfl rfl (by kernel_rfl)
            simp only [e3] at hK ⊢
            simp only [Act.put, List.setIfInBounds_toArray, List.set_cons_zero, List.set_cons_succ] at hK
            clear hs hal hts
            go_simp
            all_goals (try go_wp2_with (first | (go_at_call 50; (first | with_reducible refine (endOf_d _ hp ha hk).mono ?_ | with_reducible refine (endOf_d _ hp hb_ hk).mono ?_); rintro e w' ⟨rfl, hb1⟩) | (go_at_call 49; refine (piece_10 _ hp ha hb_ hk h1 h2).mono ?_; rintro e w' ⟨rfl, hb1⟩)))
            all_goals first | exact hK.out _ _ rfl (bl_refl _) | exact hK.out _ _ rfl (by assumption) | exact hK.out _ _ (by assumption) (by assumption)
          · cases ho
            have e0 : s 0 = _ := hs 0 (by decide) rfl rfl (by kernel_rfl)
            have e4 : s 4 = _ := hs 4 (by decide) rfl rfl (by kernel_rfl)
            simp only [e0, e4] at hK ⊢
            simp only [Act.put, List.setIfInBounds_toArray, List.set_cons_zero, List.set_cons_succ] at hK
            clear hs hal hts
            go_simp
            all_goals (try go_wp2_with (first | (go_at_call 50; (first | with_reducible refine (endOf_d _ hp ha hk).mono ?_ | with_reducible refine (endOf_d _ hp hb_ hk).mono ?_); rintro e w' ⟨rfl, hb1⟩) | (go_at_call 49; refine (piece_10 _ hp ha hb_ hk h1 h2).mono ?_; rintro e w' ⟨rfl, hb1⟩)))
            all_goals first | exact hK.out _ _ rfl (bl_refl _) | exact hK.out _ _ rfl (by assumption) | exact hK.out _ _ (by assumption) (by assumption)
          · cases ho
            simp only [Act.put, List.setIfInBounds_toArray, List.set_cons_zero, List.set_cons_succ] at hK
            clear hs hal hts
            go_simp
            all_goals (try go_wp2_with (first | (go_at_call 50; (first | with_reducible refine (endOf_d _ hp ha hk).mono ?_ | with_reducible refine (endOf_d _ hp hb_ hk).mono ?_); rintro e w' ⟨rfl, hb1⟩) | (go_at_call 49; refine (piece_10 _ hp ha hb_ hk h1 h2).mono ?_; rintro e w' ⟨rfl, hb1⟩)))
            all_goals first | exact hK.out _ _ rfl (bl_refl _) | exact hK.out _ _ rfl (by assumption) | exact hK.out _ _ (by assumption) (by assumption)
          · cases ho
            simp only [Act.put, List.setIfInBounds_toArray, List.set_cons_zero, List.set_cons_succ] at hK
            clear hs hal hts
            go_simp
            all_goals (try go_wp2_with (first | (go_at_call 50; (first | with_reducible refine (endOf_d _ hp ha hk).mono ?_ | with_reducible refine (endOf_d _ hp hb_ hk).mono ?_); rintro e w' ⟨rfl, hb1⟩) | (go_at_call 49; refine (piece_10 _ hp ha hb_ hk h1 h2).mono ?_; rintro e w' ⟨rfl, hb1⟩)))
            all_goals first | exact hK.out _ _ rfl (bl_refl _) | exact hK.out _ _ rfl (by assumption) | exact hK.out _ _ (by assumption) (by assumption)
          · cases ho
            simp only [Act.put, List.setIfInBounds_toArray, List.set_cons_zero, List.set_cons_succ] at hK
            clear hs hal hts
            go_simp
            all_goals (try go_wp2_with (first | (go_at_call 50; (first | with_reducible refine (endOf_d _ hp ha hk).mono ?_ | with_reducible refine (endOf_d _ hp hb_ hk).mono ?_); rintro e w' ⟨rfl, hb1⟩) | (go_at_call 49; refine (piece_10 _ hp ha hb_ hk h1 h2).mono ?_; rintro e w' ⟨rfl, hb1⟩)))
            all_goals first | exact hK.out _ _ rfl (bl_refl _) | exact hK.out _ _ rfl (by assumption) | exact hK.out _ _ (by assumption) (by assumption)
          · cases ho
            have e8 : s 8 = _ := hs 8 (by decide) rfl rfl (by kernel_rfl)
            simp only [e8] at hK ⊢
            simp only [Act.put, List.setIfInBounds_toArray, List.set_cons_zero, List.set_cons_succ] at hK
            clear hs hal hts
            go_simp
            all_goals (try go_wp2_with (first | (go_at_call 50; (first | with_reducible refine (endOf_d _ hp ha hk).mono ?_ | with_reducible refine (endOf_d _ hp hb_ hk).mono ?_); rintro e w' ⟨rfl, hb1⟩) | (go_at_call 49; refine (piece_10 _ hp ha hb_ hk h1 h2).mono ?_; rintro e w' ⟨rfl, hb1⟩)))
            all_goals first | exact hK.out _ _ rfl (bl_refl _) | exact hK.out _ _ rfl (by assumption) | exact hK.out _ _ (by assumption) (by assumption)
          · cases ho
            simp only [Act.put, List.setIfInBounds_toArray, List.set_cons_zero, List.set_cons_succ] at hK
            clear hs hal hts
            go_simp
            all_goals (try go_wp2_with (first | (go_at_call 50; (first | with_reducible refine (endOf_d _ hp ha hk).mono ?_ | with_reducible refine (endOf_d _ hp hb_ hk).mono ?_); rintro e w' ⟨rfl, hb1⟩) | (go_at_call 49; refine (piece_10 _ hp ha hb_ hk h1 h2).mono ?_; rintro e w' ⟨rfl, hb1⟩)))
            all_goals first | exact hK.out _ _ rfl (bl_refl _) | exact hK.out _ _ rfl (by assumption) | exact hK.out _ _ (by assumption) (by assumption)
          · cases ho
            have e10 : s 10 = _ := hs 10 (by decide) rfl rfl (by kernel_rfl)
            simp only [e10] at hK ⊢
            simp only [Act.put, List.setIfInBounds_toArray, List.set_cons_zero, List.set_cons_succ] at hK
            clear hs hal hts
            go_simp
            all_goals (try go_wp2_with (first | (go_at_call 50; (first | with_reducible refine (endOf_d _ hp ha hk).mono ?_ | with_reducible refine (endOf_d _ hp hb_ hk).mono ?_); rintro e w' ⟨rfl, hb1⟩) | (go_at_call 49; refine (piece_10 _ hp ha hb_ hk h1 h2).mono ?_; rintro e w' ⟨rfl, hb1⟩)))
            all_goals first | exact hK.out _ _ rfl (bl_refl _) | exact hK.out _ _ rfl (by assumption) | exact hK.out _ _ (by assumption) (by assumption)
          · cases ho
            have e9 : s 9 = _ := hs 9 (by decide) rfl rfl (by kernel_rfl)
            have e11 : s 11 = _ := hs 11 (by decide) rfl rfl (by kernel_rfl)
            simp only [e9, e11] at hK ⊢
            simp only [Act.put, List.setIfInBounds_toArray, List.set_cons_zero, List.set_cons_succ] at hK
            clear hs hal hts
            go_simp
            all_goals (try go_wp2_with (first | (go_at_call 50; (first | with_reducible refine (endOf_d _ hp ha hk).mono ?_ | with_reducible refine (endOf_d _ hp hb_ hk).mono ?_); rintro e w' ⟨rfl, hb1⟩) | (go_at_call 49; refine (piece_10 _ hp ha hb_ hk h1 h2).mono ?_; rintro e w' ⟨rfl, hb1⟩)))
            all_goals first | exact hK.out _ _ rfl (bl_refl _) | exact hK.out _ _ rfl (by assumption) | exact hK.out _ _ (by assumption) (by assumption)
          · cases ho
            have e7 : s 7 = _ := hs 7 (by decide) rfl rfl (by kernel_rfl)
            have e12 : s 12 = _ := hs 12 (by decide) rfl rfl (by kernel_rfl)
            simp only [e7, e12] at hK ⊢
            simp only [Act.put, List.setIfInBounds_toArray, List.set_cons_zero, List.set_cons_succ] at hK
            clear hs hal hts
            go_simp
            all_goals (try go_wp2_with (first | (go_at_call 50; (first | with_reducible refine (endOf_d _ hp ha hk).mono ?_ | with_reducible refine (endOf_d _ hp hb_ hk).mono ?_); rintro e w' ⟨rfl, hb1⟩) | (go_at_call 49; refine (piece_10 _ hp ha hb_ hk h1 h2).mono ?_; rintro e w' ⟨rfl, hb1⟩)))
            all_goals first | exact hK.out _ _ rfl (bl_refl _) | exact hK.out _ _ rfl (by assumption) | exact hK.out _ _ (by assumption) (by assumption)
          · cases ho
            have e13 : s 13 = _ := hs 13 (by decide) rfl rfl (by kernel_rfl)
            simp only [e13] at hK ⊢
            simp only [Act.put, List.setIfInBounds_toArray, List.set_cons_zero, List.set_cons_succ] at hK
            clear hs hal hts
            go_simp
            all_goals (try go_wp2_with (first | (go_at_call 50; (first | with_reducible refine (endOf_d _ hp ha hk).mono ?_ | with_reducible refine (endOf_d _ hp hb_ hk).mono ?_); rintro e w' ⟨rfl, hb1⟩) | (go_at_call 49; refine (piece_10 _ hp ha hb_ hk h1 h2).mono ?_; rintro e w' ⟨rfl, hb1⟩)))
            all_goals first | exact hK.out _ _ rfl (bl_refl _) | exact hK.out _ _ rfl (by assumption) | exact hK.out _ _ (by assumption) (by assumption)
          · cases ho
            have e6 : s 6 = _ := hs 6 (by decide) rfl rfl (by kernel_rfl)
            have e14 : s 14 = _ := hs 14 (by decide) rfl rfl (by kernel_rfl)
            simp only [e6, e14] at hK ⊢
            simp only [Act.put, List.setIfInBounds_toArray, List.set_cons_zero, List.set_cons_succ] at hK
            clear hs hal hts
            go_simp
            all_goals (try go_wp2_with (first | (go_at_call 50; (first | with_reducible refine (endOf_d _ hp ha hk).mono ?_ | with_reducible refine (endOf_d _ hp hb_ hk).mono ?_); rintro e w' ⟨rfl, hb1⟩) | (go_at_call 49; refine (piece_10 _ hp ha hb_ hk h1 h2).mono ?_; rintro e w' ⟨rfl, hb1⟩)))
            all_goals first | exact hK.out _ _ rfl (bl_refl _) | exact hK.out _ _ rfl (by assumption) | exact hK.out _ _ (by assumption) (by assumption)
          · cases ho
            have e5 : s 5 = _ := hs 5 (by decide) rfl rfl (by kernel_rfl)
            have e15 : s 15 = _ := hs 15 (by decide) rfl rfl (by kernel_rfl)
            simp only [e5, e15] at hK ⊢
            simp only [Act.put, List.setIfInBounds_toArray, List.set_cons_zero, List.set_cons_succ] at hK
            clear hs hal hts
            go_simp
            all_goals (try go_wp2_with (first | (go_at_call 50; (first | with_reducible refine (endOf_d _ hp ha hk).mono ?_ | with_reducible refine (endOf_d _ hp hb_ hk).mono ?_); rintro e w' ⟨rfl, hb1⟩) | (go_at_call 49; refine (piece_10 _ hp ha hb_ hk h1 h2).mono ?_; rintro e w' ⟨rfl, hb1⟩)))
            all_goals first | exact hK.out _ _ rfl (bl_refl _) | exact hK.out _ _ rfl (by assumption) | exact hK.out _ _ (by assumption) (by assumption)
          · cases ho
            have e16 : s 16 = _ := hs 16 (by decide) rfl rfl (by kernel_rfl)
            simp only [e16] at hK ⊢
            simp only [Act.put, List.setIfInBounds_toArray, List.set_cons_zero, List.set_cons_succ] at hK
            clear hs hal hts
            go_simp
            all_goals (try go_wp2_with (first | (go_at_call 50; (first | with_reducible refine (endOf_d _ hp ha hk).mono ?_ | with_reducible refine (endOf_d _ hp hb_ hk).mono ?_); rintro e w' ⟨rfl, hb1⟩) | (go_at_call 49; refine (piece_10 _ hp ha hb_ hk h1 h2).mono ?_; rintro e w' ⟨rfl, hb1⟩)))
            all_goals first | exact hK.out _ _ rfl (bl_refl _) | exact hK.out _ _ rfl (by assumption) | exact hK.out _ _ (by assumption) (by assumption)
          · cases ho
            have e17 : s 17 = _ := hs 17 (by decide) rfl rfl (by kernel_rfl)
            simp only [e17] at hK ⊢
            simp only [Act.put, List.setIfInBounds_toArray, List.set_cons_zero, List.set_cons_succ] at hK
            clear hs hal hts
            go_simp
            all_goals (try go_wp2_with (first | (go_at_call 50; (first | with_reducible refine (endOf_d _ hp ha hk).mono ?_ | with_reducible refine (endOf_d _ hp hb_ hk).mono ?_); rintro e w' ⟨rfl, hb1⟩) | (go_at_call 49; refine (piece_10 _ hp ha hb_ hk h1 h2).mono ?_; rintro e w' ⟨rfl, hb1⟩)))
            all_goals first | exact hK.out _ _ rfl (bl_refl _) | exact hK.out _ _ rfl (by assumption) | exact hK.out _ _ (by assumption) (by assumption)
          · cases ho
            have e17 : s 17 = _ := hs 17 (by decide) rfl rfl (by kernel_rfl)
            simp only [e17] at hK ⊢
            simp only [Act.put, List.setIfInBounds_toArray, List.set_cons_zero, List.set_cons_succ] at hK
            clear hs hal hts
            go_simp
            all_goals (try go_wp2_with (first | (go_at_call 50; (first | with_reducible refine (endOf_d _ hp ha hk).mono ?_ | with_reducible refine (endOf_d _ hp hb_ hk).mono ?_); rintro e w' ⟨rfl, hb1⟩) | (go_at_call 49; refine (piece_10 _ hp ha hb_ hk h1 h2).mono ?_; rintro e w' ⟨rfl, hb1⟩)))
            all_goals first | exact hK.out _ _ rfl (bl_refl _) | exact hK.out _ _ rfl (by assumption) | exact hK.out _ _ (by assumption) (by assumption)
          · cases (show some _ = none from hal)
          · cases (show some _ = none from hts)
          · cases ho
            have e19 : s 19 = _ := hs 19 (by decide) rfl rfl (by kernel_rfl)
            simp only [e19] at hK ⊢
            simp only [Act.put, List.setIfInBounds_toArray, List.set_cons_zero, List.set_cons_succ] at hK
            clear hs hal hts
            go_simp
            all_goals (try go_wp2_with (first | (go_at_call 50; (first | with_reducible refine (endOf_d _ hp ha hk).mono ?_ | with_reducible refine (endOf_d _ hp hb_ hk).mono ?_); rintro e w' ⟨rfl, hb1⟩) | (go_at_call 49; refine (piece_10 _ hp ha hb_ hk h1 h2).mono ?_; rintro e w' ⟨rfl, hb1⟩)))
            all_goals first | exact hK.out _ _ rfl (bl_refl _) | exact hK.out _ _ rfl (by assumption) | exact hK.out _ _ (by assumption) (by assumption)
        case ht_wn =>
          intro s hs W hb hJ
          have e0 : s 0 = _ := hs 0 (by decide) rfl rfl
          have e1 : s 1 = _ := hs 1 (by decide) rfl rfl
          have e2 : s 2 = _ := hs 2 (by decide) rfl rfl
          have e3 : s 3 = _ := hs 3 (by decide) rfl rfl
          have e4 : s 4 = _ := hs 4 (by decide) rfl rfl
          have e5 : s 5 = _ := hs 5 (by decide) rfl rfl
          have e6 : s 6 = _ := hs 6 (by decide) rfl rfl
          have e7 : s 7 = _ := hs 7 (by decide) rfl rfl
          have e8 : s 8 = _ := hs 8 (by decide) rfl rfl
          have e9 : s 9 = _ := hs 9 (by decide) rfl rfl
          have e10 : s 10 = _ := hs 10 (by decide) rfl rfl
          have e11 : s 11 = _ := hs 11 (by decide) rfl rfl
          have e12 : s 12 = _ := hs 12 (by decide) rfl rfl
          have e13 : s 13 = _ := hs 13 (by decide) rfl rfl
          have e14 : s 14 = _ := hs 14 (by decide) rfl rfl
          have e15 : s 15 = _ := hs 15 (by decide) rfl rfl
          have e16 : s 16 = _ := hs 16 (by decide) rfl rfl
          have e17 : s 17 = _ := hs 17 (by decide) rfl rfl
          have e18 : s 18 = _ := hs 18 (by decide) rfl rfl
          have e19 : s 19 = _ := hs 19 (by decide) rfl rfl
          have e22 : s 22 = _ := hs 22 (by decide) rfl rfl
          obtain ⟨p20, e20, n20, l20, cl20⟩ := hJ.1 20 _ _ (by decide) rfl rfl
          have k_p20_0 : W.cell? ⟨p20, 0, none⟩ = some (cellAt (s 18) 0) := cl20 0 (by decide)
          have k_p20_1 : W.cell? ⟨p20, 1, none⟩ = some (cellAt (s 18) 1) := cl20 1 (by decide)
          have k_p20_2 : W.cell? ⟨p20, 2, none⟩ = some (cellAt (s 18) 2) := cl20 2 (by decide)
          have k_p20_3 : W.cell? ⟨p20, 3, none⟩ = some (cellAt (s 18) 3) := cl20 3 (by decide)
          have k_p20_4 : W.cell? ⟨p20, 4, none⟩ = some (cellAt (s 18) 4) := cl20 4 (by decide)
          have k_p20_5 : W.cell? ⟨p20, 5, none⟩ = some (cellAt (s 18) 5) := cl20 5 (by decide)
          rw [e18] at k_p20_0 k_p20_1 k_p20_2 k_p20_3 k_p20_4 k_p20_5
          simp only [cellAt] at k_p20_0 k_p20_1 k_p20_2 k_p20_3 k_p20_4 k_p20_5
          simp only [e0, e1, e2, e3, e4, e5, e6, e7, e8, e9, e10, e11, e12, e13, e14, e15, e16, e17, e18, e19, e22, e20]
          clear hs hJ e0 e1 e2 e3 e4 e5 e6 e7 e8 e9 e10 e11 e12 e13 e14 e15 e16 e17 e18 e19 e22 e20 cl20
          have B1 := bl_trans hB hb
          have lG : w.heap.size + 1 < W.heap.size := Nat.lt_of_lt_of_le (by simpa using World.block_lt_of_cell? _ _ (Option.isSome_iff_exists.1 (EX 0 (by omega))).choose_spec) hb.size
          have fz0 : ∀ o, W.frozen? ⟨w.heap.size + 1, o, none⟩ = false := fun o => (B1.2 _).trans (fresh_frozen (by simp))
          have hne : p20 ≠ w.heap.size + 1 := by have := (show w.heap.size + 1 < wr.heap.size by simpa using World.block_lt_of_cell? _ _ (Option.isSome_iff_exists.1 (EX 0 (by omega))).choose_spec); omega
          have BX0 : Bel W ((W.alloc (.cells #[.float .f64 (px L kx), .float .f64 (py L kx)] 24)).alloc (.cells #[.float .f64 (px L kx), .float .f64 (py L kx)] 24)) := bl_alloc (bl_alloc (bl_refl _) _ _) _ _
          have zX0 : ((W.alloc (.cells #[.float .f64 (px L kx), .float .f64 (py L kx)] 24)).alloc (.cells #[.float .f64 (px L kx), .float .f64 (py L kx)] 24)).heap.size = W.heap.size + 1 + 1 := by simp only [World.size_alloc]
          have hfX0 : ∀ o, ((W.alloc (.cells #[.float .f64 (px L kx), .float .f64 (py L kx)] 24)).alloc (.cells #[.float .f64 (px L kx), .float .f64 (py L kx)] 24)).frozen? ⟨w.heap.size + 1, o, none⟩ = false := fun o => (BX0.2 _).trans (fz0 o)
          obtain ⟨w2, vA0, vB0, hw0, cA0, cB0, fB0, RS0, EX0, FA0, SZ0, BE0⟩ := push9 (WX := ((W.alloc (.cells #[.float .f64 (px L kx), .float .f64 (py L kx)] 24)).alloc (.cells #[.float .f64 (px L kx), .float .f64 (py L kx)] 24))) (g := w.heap.size + 1) (R := (rowN (nx, ny, fd) L kx)) (x := (px L kx)) (y := (py L kx)) (N := 2 * n) hm ((hR.bel hb).bel BX0) (fun j hj => some_bel BX0 (some_bel hb (EX j hj))) (by omega) hfX0
          have kk4 := keep (bl_alloc (bl_refl W) #[.float .f64 (px L kx), .float .f64 (py L kx)] 24) k_p20_4
          have kk5 := FA0 _ _ _ hne (keep BX0 k_p20_5)
          have BW2 := BE0 _ (bl_trans B1 BX0) (by simp)
          have fz1 : ∀ o, w2.frozen? ⟨w.heap.size + 1, o, none⟩ = false := fun o => (BW2.2 _).trans (fresh_frozen (by simp))
          have BX1 : Bel w2 ((w2.alloc (.cells #[.float .f64 (cuX (nx, ny, fd) ((px L kx), (py L kx)) ((px L j), (py L j))), .float .f64 (cuY (nx, ny, fd) ((px L kx), (py L kx)) ((px L j), (py L j)))] 24)).alloc (.cells #[.float .f64 (cuX (nx, ny, fd) ((px L kx), (py L kx)) ((px L j), (py L j))), .float .f64 (cuY (nx, ny, fd) ((px L kx), (py L kx)) ((px L j), (py L j)))] 24)) := bl_alloc (bl_alloc (bl_refl _) _ _) _ _
          have zX1 : ((w2.alloc (.cells #[.float .f64 (cuX (nx, ny, fd) ((px L kx), (py L kx)) ((px L j), (py L j))), .float .f64 (cuY (nx, ny, fd) ((px L kx), (py L kx)) ((px L j), (py L j)))] 24)).alloc (.cells #[.float .f64 (cuX (nx, ny, fd) ((px L kx), (py L kx)) ((px L j), (py L j))), .float .f64 (cuY (nx, ny, fd) ((px L kx), (py L kx)) ((px L j), (py L j)))] 24)).heap.size = w2.heap.size + 1 + 1 := by simp only [World.size_alloc]
          have hfX1 : ∀ o, ((w2.alloc (.cells #[.float .f64 (cuX (nx, ny, fd) ((px L kx), (py L kx)) ((px L j), (py L j))), .float .f64 (cuY (nx, ny, fd) ((px L kx), (py L kx)) ((px L j), (py L j)))] 24)).alloc (.cells #[.float .f64 (cuX (nx, ny, fd) ((px L kx), (py L kx)) ((px L j), (py L j))), .float .f64 (cuY (nx, ny, fd) ((px L kx), (py L kx)) ((px L j), (py L j)))] 24)).frozen? ⟨w.heap.size + 1, o, none⟩ = false := fun o => (BX1.2 _).trans (fz1 o)
          obtain ⟨w3, vA1, vB1, hw1, cA1, cB1, fB1, RS1, EX1, FA1, SZ1, BE1⟩ := push9 (WX := ((w2.alloc (.cells #[.float .f64 (cuX (nx, ny, fd) ((px L kx), (py L kx)) ((px L j), (py L j))), .float .f64 (cuY (nx, ny, fd) ((px L kx), (py L kx)) ((px L j), (py L j)))] 24)).alloc (.cells #[.float .f64 (cuX (nx, ny, fd) ((px L kx), (py L kx)) ((px L j), (py L j))), .float .f64 (cuY (nx, ny, fd) ((px L kx), (py L kx)) ((px L j), (py L j)))] 24))) (g := w.heap.size + 1) (R := (rowN (nx, ny, fd) L kx ++ [((px L kx), (py L kx))])) (x := (cuX (nx, ny, fd) ((px L kx), (py L kx)) ((px L j), (py L j)))) (y := (cuY (nx, ny, fd) ((px L kx), (py L kx)) ((px L j), (py L j)))) (N := 2 * n) (by rw [List.length_append, hm]; rfl) (RS0.bel BX1) (fun j hj => some_bel BX1 (EX0 j hj)) (by omega) hfX1
          have kk6 := keep (bl_alloc (bl_refl w2) #[.float .f64 (cuX (nx, ny, fd) ((px L kx), (py L kx)) ((px L j), (py L j))), .float .f64 (cuY (nx, ny, fd) ((px L kx), (py L kx)) ((px L j), (py L j)))] 24) kk5
          have BW3 := BE1 _ (bl_trans BW2 BX1) (by simp)
          have qi0 : ∀ X : World, (Instr.index 76 (.agg #[.float .f64 (px L kx), .float .f64 (py L kx), .float .f64 (cuX (nx, ny, fd) ((px L kx), (py L kx)) ((px L j), (py L j))), .float .f64 (cuY (nx, ny, fd) ((px L kx), (py L kx)) ((px L j), (py L j)))]) (.int .i64 0)).run Try.prog X = .ok (.agg #[.float .f64 (px L kx), .float .f64 (py L kx)]) X := fun X => by kernel_rfl
          have qi1 : ∀ X : World, (Instr.index 76 (.agg #[.float .f64 (px L kx), .float .f64 (py L kx), .float .f64 (cuX (nx, ny, fd) ((px L kx), (py L kx)) ((px L j), (py L j))), .float .f64 (cuY (nx, ny, fd) ((px L kx), (py L kx)) ((px L j), (py L j)))]) (.int .i64 1)).run Try.prog X = .ok (.agg #[.float .f64 (cuX (nx, ny, fd) ((px L kx), (py L kx)) ((px L j), (py L j))), .float .f64 (cuY (nx, ny, fd) ((px L kx), (py L kx)) ((px L j), (py L j)))]) X := fun X => by kernel_rfl
          go_wp2
          refine wp_loop_rounds 3 ?_
          rw [rounds_succ]
          go_wp2
          rw [rounds_succ]
          go_wp2
          rw [rounds_succ]
          go_wp2
          exact ⟨⟨kx + 1, m + 1 + 1, by omega, by go_num, by rw [rowN9, hsd]; simp [hm], rfl, BW3, by rw [rowN9, hsd]; simpa using RS1, EX1⟩, by simp [intOf]; omega⟩
    · have hkn : kx = n := by omega
      subst hkn
      go_wp2
      go_ret
      exact ⟨_, by rw [hm]; rfl, by omega, by rw [hm]; exact hR, bl_trans B0 hB⟩

end Go.Proofs.Ytpedpgpgcmhnoaa
