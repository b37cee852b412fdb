/-
  What each function of package poly answers, and what the reference of its chapter answers: one contract a function, for every float: the answer stands in the relation of its formula to what was given; of the memory that was there nothing has turned.
-/
import Derived.Test.YtnbkjkbgfcpcfaaVec
import Derived.Test.YtnbkjkbgfcpcfaaPj
import Derived.Below
import Derived.OwnWalk
import Derived.Lib.SliceRun
import Derived.WalkKit
import Derived.WalkLawsBesides
import Derived.WalkSpells
import Derived.ProofKit
import Derived.OpenShut
import Derived.Deep.RegionHeld3
namespace Go.Proofs.Ytnbkjkbgfcpcfaa
open Go.ChangeShapes Go.WideShapes Go.ChangeAt Go.RowKit
set_option linter.unusedVariables false
set_option linter.unusedSimpArgs false


theorem at_plain (b o j : Nat) : (⟨b, o, none⟩ : Addr).add j = ⟨b, o + j, none⟩ := add_plain b o j
theorem clone_d (b off n cap : Nat) (L : List Pt) (w : World) (hl : L.length = n) (hs : Sl w b off n (px L) (py L)) (hp : 0 < n) (hr : n ≤ 1000000) : Calls Try.prog 81 #[.slice (some ⟨b, off, none⟩) n cap] w fun e w' => ∃ v, e = .returned v ∧ Own w.heap.size w' v L ∧ Bel w w' := by
  subst hl
  have own0 : Own w.heap.size (w.alloc (.cells #[] 36)) (.slice (some ⟨w.heap.size, 0, none⟩) 0 0) [] := own_new (L := []) (cs := #[]) (Nat.le_refl _) (Nat.le_refl _) (by decide) rfl (fun j hj => by simp at hj)
  have qn := fun W => Lib.run_eql_slice_nil (P := Try.prog) W 22 36 (some ⟨b, off, none⟩) L.length cap 0 0 Try.underlying22
  go_enter Try.func81, Try.ntmps81
  go_wp2_with (first | (at_builtin; refine wpList_app rfl _ _ rfl rfl b off cap rfl own0 (hs.bel (bl_alloc (bl_refl w) _ _)) hp (by simp) (by simp; omega) ?_; intro v1 w1 h1 h2) | go_in)
  go_wp2
  go_ret
  exact ⟨_, rfl, h1, h2 _ (bl_alloc (bl_refl w) _ _) (Nat.le_refl _)⟩
set_option maxHeartbeats 1000000 in
theorem stable_small (b off n cap : Nat) (L : List Pt) (w : World) (hl : L.length = n) (hs : Sl w b off n (px L) (py L)) (hN : Nums L) (hn : n < 20) (hcap : n ≤ cap) (W0 : World) (fb : W0.heap.size ≤ b) (B0 : Bel W0 w) :
    Calls Try.prog 117 #[.slice (some ⟨b, off, none⟩) n cap, .int .i64 n, .func (.func 83) #[] #[]] w fun e w' => e = .returned (.tuple #[]) ∧ Mo b w w' ∧ Sl w' b off n (px (insOut 0 (n - 1) L)) (py (insOut 0 (n - 1) L)) := by
  have n1 : ¬ (20 : Int) ≤ (n : Int) := by omega
  have n2 : ¬ (20 : Int) < (n : Int) := by omega
  go_enter Try.func117, Try.ntmps117
  go_wp2
  refine wp_loop_rounds 1 ?_
  rw [rounds_succ]
  go_wp2_with (first | (go_at_call 128; refine (ins_d b off n cap 0 n L _ hl hs hN (by omega) hcap (by omega) (by omega) W0 fb B0).mono ?_; rintro e w_1 ⟨rfl, hm, hS⟩))
  refine wp_loop_rounds 1 ?_
  rw [rounds_succ]
  go_wp2
  refine bodyPost_end (results_none rfl _ _ _) rfl ⟨rfl, hm, hS⟩
theorem sort_small (b off n cap : Nat) (L : List Pt) (w : World) (hl : L.length = n) (hs : Sl w b off n (px L) (py L)) (hN : Nums L) (hn : n < 20) (hcap : n ≤ cap) (W0 : World) (fb : W0.heap.size ≤ b) (B0 : Bel W0 w) :
    Calls Try.prog 82 #[.slice (some ⟨b, off, none⟩) n cap, .func (.func 83) #[] #[]] w fun e w' => e = .returned (.tuple #[]) ∧ Mo b w w' ∧ Sl w' b off n (px (insOut 0 (n - 1) L)) (py (insOut 0 (n - 1) L)) := by
  go_enter Try.func82, Try.ntmps82
  go_wp2_with (first | (go_at_call 117; refine (stable_small b off n cap L _ hl hs hN hn hcap W0 fb B0).mono ?_; rintro e w_1 ⟨rfl, hm, hS⟩))
  refine bodyPost_end (results_none rfl _ _ _) rfl ⟨rfl, hm, hS⟩
theorem butLast_d (b off n cap : Nat) (w : World) (hp : 0 < n) (hn : n ≤ maxLen) (hcap : n ≤ cap) : Calls Try.prog 39 #[.slice (some ⟨b, off, none⟩) n cap] w fun e w' => e = .returned (.slice (some ⟨b, off, none⟩) (n - 1) cap) ∧ w' = w := by
  unfold maxLen at hn
  obtain ⟨m, rfl⟩ : ∃ m, n = m + 1 := ⟨n - 1, by omega⟩
  have m0 : IntKind.wrap .i64 ((m : Int) + 1 - 1) = (m : Int) := by rw [IntKind.wrap_i64]; omega
  have m1 : ¬ (m : Int) < 0 := by omega
  have m2 : (0 : Int) ≤ (m : Int) := by omega
  have m3 : (m : Int) ≤ (cap : Int) := by omega
  go_enter Try.func39, Try.ntmps39
  go_wp2
  go_ret
  exact ⟨rfl, rfl⟩
def revF (f : Nat → Nat) (n k : Nat) : Nat → Nat := fun i => if i < k ∨ n ≤ i + k then f (n - 1 - i) else f i
theorem rev_step {f : Nat → Nat} {n k j : Nat} (hj : j + k + 1 = n) (hk : k < j) : ∀ i, i < n → upd (upd (revF f n k) k (f j)) j (f k) i = revF f n (k + 1) i := by
  intro i hi
  unfold upd revF
  by_cases e1 : i = j
  · rw [if_pos e1, if_pos (by omega), show n - 1 - i = k by omega]
  · rw [if_neg e1]
    by_cases e2 : i = k
    · rw [if_pos e2, if_pos (by omega), show n - 1 - i = j by omega]
    · rw [if_neg e2]
      by_cases e3 : i < k ∨ n ≤ i + k
      · rw [if_pos e3, if_pos (by omega)]
      · rw [if_neg e3, if_neg (by omega)]
set_option maxHeartbeats 1000000 in
theorem reverse_d (b off n cap : Nat) (xs ys : Nat → Nat) (w : World) (hs : Sl w b off n xs ys) (hp : 0 < n) (hn : n ≤ 1000) (hcap : n ≤ cap) (W0 : World) (fb : W0.heap.size ≤ b) (B0 : Bel W0 w) :
    Calls Try.prog 37 #[.slice (some ⟨b, off, none⟩) n cap] w fun e w' => e = .returned (.tuple #[]) ∧ Mo b w w' ∧ Sl w' b off n (fun i => xs (n - 1 - i)) (fun i => ys (n - 1 - i)) := by
  have wn : IntKind.wrap .i64 ((n : Int) - 1) = (n : Int) - 1 := by rw [IntKind.wrap_i64]; omega
  go_enter Try.func37, Try.ntmps37
  go_wp2
  go_loopw [2, 3] (fun i' j' wr => ∃ k j : Nat, j + k + 1 = n ∧ k ≤ j + 1 ∧ i' = .int .i64 k ∧ j' = .int .i64 j ∧ Mo b w wr ∧ Sl wr b off n (revF xs n k) (revF ys n k)) (fun _ j' _ => (intOf j').toNat)
  case atStart => exact ⟨0, n - 1, by omega, by omega, rfl, by simp; omega, Mo.refl _ _, hs.eq (fun i hi => by unfold revF; rw [if_neg (by omega)]) (fun i hi => by unfold revF; rw [if_neg (by omega)])⟩
  case round =>
    obtain ⟨k, j, hkj, hk1, rfl, rfl, hM, hR⟩ := hrel
    by_cases hlt : k < j
    · have k1 : (k : Int) < (j : Int) := by omega
      have k2 : (k : Int) < (n : Int) := by omega
      have k3 : (j : Int) < (n : Int) := by omega
      have wk : IntKind.wrap .i64 ((k : Int) + 1) = (k : Int) + 1 := by rw [IntKind.wrap_i64]; omega
      have wj : IntKind.wrap .i64 ((j : Int) - 1) = (j : Int) - 1 := by rw [IntKind.wrap_i64]; omega
      obtain ⟨x0, x1⟩ := hR k (by omega)
      obtain ⟨x2, x3⟩ := hR j (by omega)
      have FQ : ∀ o, wr.frozen? ⟨b, o, none⟩ = false := fun o => (hM.fz _).trans ((B0.2 _).trans (fresh_frozen fb))
      have lq := World.block_lt_of_cell? _ _ x0
      simp only at lq
      have r1 : ∀ f, revF f n k k = f k := fun f => by unfold revF; rw [if_neg (by omega)]
      have r2 : ∀ f, revF f n k j = f j := fun f => by unfold revF; rw [if_neg (by omega)]
      rw [r1] at x0 x1
      rw [r2] at x2 x3
      go_wp2
      go_region
      all_goals go_wp2
      have hS := (hR.set (i := k) (by omega) (xs j) (ys j)).set (i := j) (by omega) (xs k) (ys k)
      exact ⟨⟨k + 1, j - 1, by omega, by omega, by go_num, by simp; omega, (((((hM.set).set).set).set)).drew, (hS.eq (rev_step hkj hlt) (rev_step hkj hlt)).drew⟩, by simp [intOf]; omega⟩
    · have k1 : ¬ (k : Int) < (j : Int) := by omega
      go_wp2
      refine bodyPost_end (results_none rfl _ _ _) rfl ⟨rfl, hM, hR.eq (fun i hi => ?_) (fun i hi => ?_)⟩
      all_goals
        unfold revF
        by_cases h : i < k ∨ n ≤ i + k
        · rw [if_pos h]
        · rw [if_neg h, show n - 1 - i = i by omega]
theorem zero_one (k : Nat) : ∀ u ∈ (Builtin.zeroCells (.agg #[.float .f64 0, .float .f64 0] : Value).cells k).toList, u.oneCell' = true := by
  intro u hu
  simp only [Builtin.zeroCells, Array.toList_map, List.mem_map] at hu
  obtain ⟨i, _, rfl⟩ := hu
  rcases Nat.mod_two_eq_zero_or_one i with h | h
  · have : i % ((Value.agg #[.float .f64 0, .float .f64 0]).cells).size = 0 := h
    rw [this]; rfl
  · have : i % ((Value.agg #[.float .f64 0, .float .f64 0]).cells).size = 1 := h
    rw [this]; rfl
theorem run_clear2 (w : World) (ty b o n c : Nat) (hn : 0 < n) (hc : ∀ j, j < n * 2 → (w.cell? ⟨b, o + j, none⟩).isSome = true) (hf : ∀ o, w.frozen? ⟨b, o, none⟩ = false) :
    (Builtin.clear_ #[22] ty #[.slice (some ⟨b, o, none⟩) n c]).run Try.prog w = .ok (.tuple #[]) (w.setCells b o (Builtin.zeroCells (.agg #[.float .f64 0, .float .f64 0] : Value).cells n).toList) := by
  obtain ⟨i0, hi, hz0, hz1, hz2⟩ := info_parts info_vec
  have hl : (Builtin.zeroCells (.agg #[.float .f64 0, .float .f64 0] : Value).cells n).toList.length = n * 2 := by rw [Array.length_toList, size_zeroCells]; rfl
  have hst := run_storeCells_cells (P := Try.prog) b o (Builtin.zeroCells (.agg #[.float .f64 0, .float .f64 0] : Value).cells n).toList 0 w (by rw [hl]; simpa using hc) (fun j _ => hf _) (zero_one n)
  simp only [Nat.add_zero] at hst
  obtain ⟨m, rfl⟩ : ∃ m, n = m + 1 := ⟨n - 1, by omega⟩
  simp [Builtin.clear_, run_underlying Try.underlying22, zeroValue, typeInfo, hi, hz0, hst]
theorem Sl.lt_ {w : World} {b off n : Nat} {xs ys : Nat → Nat} (h : Sl w b off n xs ys) {m : Nat} (hm : m ≤ n) : Sl w b off m xs ys := fun i hi => h i (by omega)
theorem px_pt {L M : List Pt} {i : Nat} (h : pt L i = pt M i) : px L i = px M i := by unfold px; rw [h]
theorem py_pt {L M : List Pt} {i : Nat} (h : pt L i = pt M i) : py L i = py M i := by unfold py; rw [h]
theorem pt_app1 (L M : List Pt) {i : Nat} (h : i < L.length) : pt (L ++ M) i = pt L i := by
  unfold pt; rw [List.getD_eq_getElem?_getD, List.getD_eq_getElem?_getD, List.getElem?_append_left h]
theorem pt_end (L : List Pt) (p : Pt) : pt (L ++ [p]) L.length = p := by
  unfold pt; rw [List.getD_eq_getElem?_getD, List.getElem?_append_right (Nat.le_refl _), Nat.sub_self]; rfl
theorem Sl.put {w : World} {b off m : Nat} {D : List Pt} {p : Pt} (hD : D.length = m) (h : Sl w b off m (px D) (py D)) (x0 : (w.cell? ⟨b, off + m * 2, none⟩).isSome = true) (x1 : (w.cell? ⟨b, off + m * 2 + 1, none⟩).isSome = true) :
    Sl ((w.setCell ⟨b, off + m * 2, none⟩ (.float .f64 p.1)).setCell ⟨b, off + m * 2 + 1, none⟩ (.float .f64 p.2)) b off (m + 1) (px (D ++ [p])) (py (D ++ [p])) := by
  obtain ⟨u0, x0⟩ := Option.isSome_iff_exists.1 x0
  obtain ⟨u1, x1⟩ := Option.isSome_iff_exists.1 x1
  intro i hi
  by_cases e : i = m
  · subst e
    have e1 : px (D ++ [p]) i = p.1 := by unfold px; rw [← hD, pt_end]
    have e2 : py (D ++ [p]) i = p.2 := by unfold py; rw [← hD, pt_end]
    rw [e1, e2]
    exact ⟨cell_apart (by omega) (World.cell?_setCell_same _ _ _ x0), World.cell?_setCell_same _ _ _ (cell_apart (by omega) x1)⟩
  · rw [px_app1 _ _ _ (by omega), py_app1 _ _ _ (by omega)]
    obtain ⟨h1, h2⟩ := h i (by omega)
    exact ⟨cell_apart (by omega) (cell_apart (by omega) h1), cell_apart (by omega) (cell_apart (by omega) h2)⟩
theorem some_set {w : World} {b o x : Nat} {v : Value} (h : (w.cell? ⟨b, x, none⟩).isSome = true) : ((w.setCell ⟨b, o, none⟩ v).cell? ⟨b, x, none⟩).isSome = true := some_sets [v] o w h
theorem some_bel {w w' : World} {a : Addr} (g : Bel w w') (h : (w.cell? a).isSome = true) : (w'.cell? a).isSome = true := by
  obtain ⟨u, hu⟩ := Option.isSome_iff_exists.1 h
  rw [keep g hu]; rfl
set_option maxHeartbeats 4000000 in
theorem compact_d (b off n cap : Nat) (L : List Pt) (w : World) (hl : L.length = n) (hs : Sl w b off n (px L) (py L)) (hp : 0 < n) (hn : n ≤ 1000) (hcap : n ≤ cap) (W0 : World) (fb : W0.heap.size ≤ b) (B0 : Bel W0 w) :
    Calls Try.prog 85 #[.slice (some ⟨b, off, none⟩) n cap, .func (.func 86) #[] #[]] w fun e w' => e = .returned (.slice (some ⟨b, off, none⟩) (dd L n).length cap) ∧ Mo b w w' ∧ Sl w' b off (dd L n).length (px (dd L n)) (py (dd L n)) := by
  by_cases h2 : n < 2
  · have n1 : n = 1 := by omega
    subst n1
    go_enter Try.func85, Try.ntmps85
    go_wp2
    go_ret
    refine ⟨by rw [dd_one]; rfl, Mo.refl _ _, ?_⟩
    rw [dd_one]
    exact hs.eq (fun i hi => by rw [show i = 0 by omega]; rfl) (fun i hi => by rw [show i = 0 by omega]; rfl)
  · have n2 : ¬ (n : Int) < 2 := by omega
    have EX : ∀ j, j < n * 2 → (w.cell? ⟨b, off + j, none⟩).isSome = true := fun j hj => by
      obtain ⟨e1, e2⟩ := hs (j / 2) (by omega)
      rcases Nat.mod_two_eq_zero_or_one j with h | h
      · rw [show off + j / 2 * 2 = off + j by omega] at e1; rw [e1]; rfl
      · rw [show off + j / 2 * 2 + 1 = off + j by omega] at e2; rw [e2]; rfl
    go_enter Try.func85, Try.ntmps85
    go_wp2
    go_loopw [5] (fun k' wr => ∃ k : Nat, 1 ≤ k ∧ k ≤ n ∧ (dd L k).length = k ∧ (∀ i, i < k → pt (dd L k) i = pt L i) ∧ k' = .int .i64 k ∧ Mo b w wr ∧ Sl wr b off n (px L) (py L) ∧ ∀ j, j < n * 2 → (wr.cell? ⟨b, off + j, none⟩).isSome = true) (fun k' _ => n - (intOf k').toNat)
    case atStart => exact ⟨1, by omega, by omega, by rw [dd_one]; rfl, fun i hi => by rw [dd_one, show i = 0 by omega]; rfl, rfl, Mo.refl _ _, hs, EX⟩
    case round =>
      clear EX
      obtain ⟨k, hk1, hk, hdl, hdp, rfl, hM, hR, EX⟩ := hrel
      by_cases hlt : k < n
      · have k1 : (k : Int) < (n : Int) := by omega
        obtain ⟨q, hq⟩ : ∃ q, q + 1 = k := ⟨k - 1, by omega⟩
        have j3 : (k : Int) - 1 = (q : Int) := by omega
        have wj : IntKind.wrap .i64 (q : Int) = (q : Int) := by rw [IntKind.wrap_i64]; omega
        have wk : IntKind.wrap .i64 ((k : Int) + 1) = (k : Int) + 1 := by rw [IntKind.wrap_i64]; omega
        have q1 : (q : Int) < (n : Int) := by omega
        obtain ⟨x0, x1⟩ := hR k (by omega)
        obtain ⟨x2, x3⟩ := hR q (by omega)
        haveI := belBy_some wr
        have y0 := belBy_cell x0
        have y1 := belBy_cell x1
        have y2 := belBy_cell x2
        have y3 := belBy_cell x3
        cases hc : (eqK .f64 (px L k) (px L q) && eqK .f64 (py L k) (py L q))
        all_goals
          go_wp2
          refine wp_region_quiet_bel (by kernel_rfl) (by kernel_rfl) ?_
          repeat (go_big_quiet_step (first | (go_at_call 86; exact calls_bel (same_d _ _ _ _ _))))
          refine wpQuiet_nil ?_
          rintro _ ⟨nq, rfl⟩
          simp only [hc]
        · have hc' : eqP (pt L k) (pt L (k - 1)) = false := by rw [show k - 1 = q by omega]; exact hc
          go_wp2
          refine ⟨⟨k + 1, by omega, by omega, by rw [dd_ne hc']; simp [hdl], fun i hi => ?_, by go_num, hM.on nq.h, hR.bel nq.h, fun j hj => some_bel nq.h (EX j hj)⟩, by simp [intOf]; omega⟩
          rw [dd_ne hc']
          by_cases e : i = k
          · have e2 := pt_end (dd L k) (pt L k)
            rw [hdl] at e2
            rw [e]; exact e2
          · rw [pt_app1 _ _ (by omega)]; exact hdp i (by omega)
        · have hc' : eqP (pt L k) (pt L (k - 1)) = true := by rw [show k - 1 = q by omega]; exact hc
          have hdk := dd_eq hk1 hc'
          clear y0 y1 y2 y3 x0 x1 x2 x3
          go_wp2
          go_loopw [7, 5] (fun c' m' wr => ∃ c m r : Nat, k + c = r ∧ 1 ≤ c ∧ r ≤ n ∧ (dd L r).length = m ∧ m + 1 ≤ r ∧ c' = .int .i64 c ∧ m' = .int .i64 m ∧ Mo b w wr ∧ Sl wr b off m (px (dd L r)) (py (dd L r)) ∧ (∀ i, r ≤ i + 1 → i < n → wr.cell? ⟨b, off + i * 2, none⟩ = some (.float .f64 (px L i)) ∧ wr.cell? ⟨b, off + i * 2 + 1, none⟩ = some (.float .f64 (py L i))) ∧ ∀ j, j < n * 2 → (wr.cell? ⟨b, off + j, none⟩).isSome = true) (fun c' _ _ => n - (intOf c').toNat)
          case atStart =>
            refine ⟨1, k, k + 1, rfl, Nat.le_refl _, by omega, by rw [hdk, hdl], by omega, rfl, rfl, hM.on nq.h, ?_, fun i _ hi => (hR.bel nq.h) i hi, fun j hj => some_bel nq.h (EX j hj)⟩
            rw [hdk]
            exact ((hR.bel nq.h).lt_ (by omega)).eq (fun i hi => (px_pt (hdp i hi)).symm) (fun i hi => (py_pt (hdp i hi)).symm)
          case round =>
            clear hM hR EX
            obtain ⟨c, m, r, hcr, hc1, hr, hml, hmr, rfl, rfl, hM, hD, hT, EX⟩ := hrel
            have nk : ((n - k : Nat) : Int) = (n : Int) - (k : Int) := by omega
            have FQ : ∀ o, wr.frozen? ⟨b, o, none⟩ = false := fun o => (hM.fz _).trans ((B0.2 _).trans (fresh_frozen fb))
            by_cases hlt2 : r < n
            · have c1 : (c : Int) < ((n - k : Nat) : Int) := by omega
              have c2 : c < n - k := by omega
              obtain ⟨p, hp'⟩ : ∃ p, p + 1 = c := ⟨c - 1, by omega⟩
              have j4 : (c : Int) - 1 = (p : Int) := by omega
              have wp : IntKind.wrap .i64 (p : Int) = (p : Int) := by rw [IntKind.wrap_i64]; omega
              have wc : IntKind.wrap .i64 ((c : Int) + 1) = (c : Int) + 1 := by rw [IntKind.wrap_i64]; omega
              have wm : IntKind.wrap .i64 ((m : Int) + 1) = (m : Int) + 1 := by rw [IntKind.wrap_i64]; omega
              have p1 : (p : Int) < ((n - k : Nat) : Int) := by omega
              have p2 : p < n - k := by omega
              have m1 : (m : Int) < (n : Int) := by omega
              have m2 : m < n := by omega
              obtain ⟨x0, x1⟩ := hT r (by omega) hlt2
              obtain ⟨x2, x3⟩ := hT (r - 1) (by omega) (by omega)
              rw [show off + r * 2 = off + k * 2 + c * 2 by omega] at x0 x1
              rw [show off + (r - 1) * 2 = off + k * 2 + p * 2 by omega] at x2 x3
              have lq := World.block_lt_of_cell? _ _ x0
              simp only at lq
              haveI := belBy_some wr
              have y0 := belBy_cell x0
              have y1 := belBy_cell x1
              have y2 := belBy_cell x2
              have y3 := belBy_cell x3
              cases hc2 : (eqK .f64 (px L r) (px L (r - 1)) && eqK .f64 (py L r) (py L (r - 1)))
              all_goals
                go_wp2
                refine wp_region_quiet_bel (by kernel_rfl) (by kernel_rfl) ?_
                repeat (go_big_quiet_step (first | (go_at_call 86; exact calls_bel (same_d _ _ _ _ _))))
                refine wpQuiet_nil ?_
                rintro _ ⟨n2, rfl⟩
                simp only [hc2]
              · have hdd := dd_ne (L := L) (i := r) hc2
                have z0 := keep n2.h x0
                have z1 := keep n2.h x1
                have FQ2 : ∀ o, n2.world.frozen? ⟨b, o, none⟩ = false := fun o => (n2.h.2 _).trans (FQ o)
                obtain ⟨v0, hv0⟩ := Option.isSome_iff_exists.1 (some_bel n2.h (EX (m * 2) (by omega)))
                obtain ⟨v1, hv1⟩ := Option.isSome_iff_exists.1 (some_bel n2.h (EX (m * 2 + 1) (by omega)))
                rw [← Nat.add_assoc] at hv1
                have lq2 := World.block_lt_of_cell? _ _ z0
                simp only at lq2
                go_wp2
                have hP := Sl.put (p := pt L r) hml (hD.bel n2.h) (by rw [hv0]; rfl) (by rw [hv1]; rfl)
                refine ⟨⟨c + 1, m + 1, r + 1, by omega, by omega, by omega, by rw [hdd]; simp [hml], by omega, by go_num, by go_num, ((hM.on n2.h).set).set, by rw [hdd]; exact hP, fun i hi1 hi2 => ?_, fun j hj => some_set (some_set (some_bel n2.h (EX j hj)))⟩, by simp [intOf]; omega⟩
                obtain ⟨t0, t1⟩ := hT i (by omega) hi2
                exact ⟨cell_apart (by omega) (cell_apart (by omega) (keep n2.h t0)), cell_apart (by omega) (cell_apart (by omega) (keep n2.h t1))⟩
              · have hdd := dd_eq (L := L) (i := r) (by omega) hc2
                go_wp2
                exact ⟨⟨c + 1, m, r + 1, by omega, by omega, by omega, by rw [hdd, hml], by omega, by go_num, rfl, hM.on n2.h, by rw [hdd]; exact hD.bel n2.h, fun i hi1 hi2 => ⟨keep n2.h (hT i (by omega) hi2).1, keep n2.h (hT i (by omega) hi2).2⟩, fun j hj => some_bel n2.h (EX j hj)⟩, by simp [intOf]; omega⟩
            · have hrn : r = n := by omega
              subst hrn
              have c1 : ¬ (c : Int) < ((r - k : Nat) : Int) := by omega
              have c2 : ¬ c < r - k := by omega
              have m1 : (m : Int) ≤ (r : Int) := by omega
              have m2 : m ≤ r := by omega
              have m3 : (m : Int) ≤ (cap : Int) := by omega
              have m4 : m ≤ cap := by omega
              have m5 : m < cap := by omega
              have hcl := fun ty => run_clear2 wr ty b (off + m * 2) (r - m) (cap - m) (by omega) (fun j hj => by rw [Nat.add_assoc]; exact EX _ (by omega)) FQ
              go_wp2
              go_ret
              refine ⟨by (try rw [hml]); rfl, hM.sets _ _, ?_⟩
              (try rw [hml])
              intro i hi
              obtain ⟨t0, t1⟩ := hD i hi
              exact ⟨(World.cell?_setCells_out b _ _ _ ⟨b, off + i * 2, none⟩ (fun _ _ => .inl (by show off + i * 2 < off + m * 2; omega))).trans t0, (World.cell?_setCells_out b _ _ _ ⟨b, off + i * 2 + 1, none⟩ (fun _ _ => .inl (by show off + i * 2 + 1 < off + m * 2; omega))).trans t1⟩
      · have hkn : k = n := by omega
        subst hkn
        go_wp2
        go_ret
        exact ⟨by rw [hdl]; rfl, hM, by rw [hdl]; exact hR.eq (fun i hi => (px_pt (hdp i hi)).symm) (fun i hi => (py_pt (hdp i hi)).symm)⟩

end Go.Proofs.Ytnbkjkbgfcpcfaa
