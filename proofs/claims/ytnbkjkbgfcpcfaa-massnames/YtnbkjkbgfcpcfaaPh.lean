/-
  What each function of package poly answers, and what the reference of its chapter answers: one contract a function, for every float: the answer stands in the relation of its formula to what was given; of the memory that was there nothing has turned.
-/
import Derived.Test.YtnbkjkbgfcpcfaaVec
import Derived.Test.YtnbkjkbgfcpcfaaPd
import Derived.Below
import Derived.Laws.StructEq
import Derived.WalkKit
import Derived.WalkLawsBesides
import Derived.WalkSpells
import Derived.ProofKit
import Derived.OpenShut
import Derived.Deep.RegionHeld3
namespace Go.Proofs.Ytnbkjkbgfcpcfaa
open Go.ChangeShapes Go.WideShapes Go.ChangeAt Go.RowKit
set_option linter.unusedVariables false
set_option linter.unusedSimpArgs false


theorem isNaN_no (x : Nat) (w : World) (h : nanK .f64 x = false) : Calls Try.prog 118 #[.float .f64 x] w fun e w' => e = .returned (.bool false) ∧ w' = w := by
  have c1 := cmp_ne .f64
  have e1 : eqK .f64 x x = true := by unfold eqK; rw [h]; simp
  go_enter Try.func118, Try.ntmps118
  go_wp2
  go_ret
  exact ⟨rfl, rfl⟩
theorem compare_d (x y : Nat) (w : World) (hx : nanK .f64 x = false) (hy : nanK .f64 y = false) : Calls Try.prog 84 #[.float .f64 x, .float .f64 y] w fun e w' => e = .returned (.int .i64 (c3 x y)) ∧ w' = w := by
  have c1 := cmp_lt .f64
  have c2 := cmp_gt .f64
  cases h1 : ltK .f64 x y
  · cases h2 : ltK .f64 y x
    all_goals
      go_enter Try.func84, Try.ntmps84
      go_wp2_with (first | (go_at_call 118; refine (isNaN_no _ _ (by assumption)).mono ?_; rintro e w' ⟨rfl, rfl⟩))
      go_ret
      exact ⟨by unfold c3; rw [h1, h2]; rfl, rfl⟩
  · go_enter Try.func84, Try.ntmps84
    go_wp2_with (first | (go_at_call 118; refine (isNaN_no _ _ (by assumption)).mono ?_; rintro e w' ⟨rfl, rfl⟩))
    go_ret
    exact ⟨by unfold c3; rw [h1]; rfl, rfl⟩
theorem order_d (ax ay bx b_y : Nat) (w : World) (h1 : nanK .f64 ax = false) (h2 : nanK .f64 ay = false) (h3 : nanK .f64 bx = false) (h4 : nanK .f64 b_y = false) : Calls Try.prog 83 #[.agg #[.float .f64 ax, .float .f64 ay], .agg #[.float .f64 bx, .float .f64 b_y]] w fun e w' => e = .returned (.int .i64 (cmpK ax ay bx b_y)) ∧ Bel w w' := by
  have c1 := cmp_ne .f64
  cases h5 : eqK .f64 ax bx
  all_goals
    go_enter Try.func83, Try.ntmps83
    go_wp2_with (first | (go_at_call 84; refine (compare_d _ _ _ (by assumption) (by assumption)).mono ?_; rintro e w' ⟨rfl, rfl⟩))
    go_ret
    refine ⟨by unfold cmpK; rw [h5]; rfl, ?_⟩
    repeat (first | exact bl_refl _ | assumption | apply bl_drewN | apply bl_drew | apply bl_alloc | refine bl_set ?_ (by simp <;> omega) | refine bl_trans ?_ (by assumption))
theorem same_d (ax ay bx b_y : Nat) (w : World) : Calls Try.prog 86 #[.agg #[.float .f64 ax, .float .f64 ay], .agg #[.float .f64 bx, .float .f64 b_y]] w fun e w' => e = .returned (.bool (eqK .f64 ax bx && eqK .f64 ay b_y)) ∧ Bel w w' := by
  have c1 := cmp_eq .f64
  have q1 := fun (x y : Nat) (w : World) => run_equalIn_float Try.prog w 31 .f64 x y Try.underlying31
  have q3 := fun (d x y : Nat) (w : World) => run_equalIn_fl Try.prog w d 31 .f64 x y Try.underlying31
  have q4 := fun (x y : Nat) (w : World) => run_equalIn_fl Try.prog w 9997 31 .f64 x y Try.underlying31
  cases h1 : eqK .f64 ax bx
  all_goals cases h2 : eqK .f64 ay b_y
  all_goals
    go_enter Try.func86, Try.ntmps86
    go_wp2
    go_ret
    refine ⟨by first | rfl | simp, ?_⟩
    repeat (first | exact bl_refl _ | assumption | apply bl_drewN | apply bl_drew | apply bl_alloc | refine bl_set ?_ (by simp <;> omega) | refine bl_trans ?_ (by assumption))
/-- of the blocks that were there, at most one has turned -/
structure Mo (b : Nat) (w w' : World) : Prop where
  size : w.heap.size ≤ w'.heap.size
  fz : ∀ a, w'.frozen? a = w.frozen? a
  cell : ∀ c o, c < w.heap.size → c ≠ b → w'.cell? ⟨c, o, none⟩ = w.cell? ⟨c, o, none⟩
  bel : ∀ W0, Bel W0 w → W0.heap.size ≤ b → Bel W0 w'
theorem Mo.refl (b : Nat) (w : World) : Mo b w w := ⟨Nat.le_refl _, fun _ => rfl, fun _ _ _ _ => rfl, fun _ h _ => h⟩
theorem Mo.on {b : Nat} {w w1 w2 : World} (h : Mo b w w1) (g : Bel w1 w2) : Mo b w w2 :=
  ⟨Nat.le_trans h.size g.size, fun a => (g.2 a).trans (h.fz a), fun c o hc hb => ((bcell g).1 c o (Nat.lt_of_lt_of_le hc h.size)).trans (h.cell c o hc hb), fun W0 h0 h1 => bl_trans (h.bel W0 h0 h1) g⟩
theorem Mo.drew {b : Nat} {w w1 : World} (h : Mo b w w1) : Mo b w w1.drew := h.on (bl_drew (bl_refl _))
theorem Mo.set {b o : Nat} {w w1 : World} {v : Value} (h : Mo b w w1) : Mo b w (w1.setCell ⟨b, o, none⟩ v) :=
  ⟨by simpa [World.setCell] using h.size, fun a => (World.frozen?_setCell _ _ _ _).trans (h.fz a), fun c o' hc hb => (World.cell?_setCell_far _ _ _ _ (fun e => hb e.symm)).trans (h.cell c o' hc hb), fun W0 h0 h1 => bl_set (h.bel W0 h0 h1) h1⟩
theorem Mo.sl {b : Nat} {w w1 : World} (h : Mo b w w1) {c off n : Nat} {xs ys : Nat → Nat} (hs : Sl w c off n xs ys) (hc : c ≠ b) : Sl w1 c off n xs ys := fun i hi =>
  ⟨(h.cell _ _ (World.block_lt_of_cell? w _ (hs i hi).1) hc).trans (hs i hi).1, (h.cell _ _ (World.block_lt_of_cell? w _ (hs i hi).2) hc).trans (hs i hi).2⟩
theorem Sl.drew {w : World} {b off n : Nat} {xs ys : Nat → Nat} (h : Sl w b off n xs ys) : Sl w.drew b off n xs ys := fun i hi => h i hi
theorem Sl.swap {w : World} {b off n j : Nat} {L : List Pt} (hl : L.length = n) (hs : Sl w b off n (px L) (py L)) (hj : j < n) (h0 : 0 < j) :
    Sl ((((w.setCell ⟨b, off + j * 2, none⟩ (.float .f64 (px L (j - 1)))).setCell ⟨b, off + j * 2 + 1, none⟩ (.float .f64 (py L (j - 1)))).setCell ⟨b, off + (j - 1) * 2, none⟩ (.float .f64 (px L j))).setCell ⟨b, off + (j - 1) * 2 + 1, none⟩ (.float .f64 (py L j))) b off n (px (swapL L j)) (py (swapL L j)) := by
  have h1 := (hs.set hj (px L (j - 1)) (py L (j - 1))).set (i := j - 1) (by omega) (px L j) (py L j)
  unfold swapL
  rw [px_set (by simp; omega), py_set (by simp; omega), px_set (by omega), py_set (by omega)]
  exact h1
set_option maxHeartbeats 4000000 in
theorem ins_d (b off n cap a m : Nat) (L : List Pt) (w : World) (hl : L.length = n) (hs : Sl w b off n (px L) (py L)) (hN : Nums L) (hn : n ≤ 64) (hcap : n ≤ cap) (ham : a ≤ m) (hm : m ≤ n) (W0 : World) (fb : W0.heap.size ≤ b) (B0 : Bel W0 w) :
    Calls Try.prog 128 #[.slice (some ⟨b, off, none⟩) n cap, .int .i64 a, .int .i64 m, .func (.func 83) #[] #[]] w fun e w' => e = .returned (.tuple #[]) ∧ Mo b w w' ∧ Sl w' b off n (px (insOut a (m - a - 1) L)) (py (insOut a (m - a - 1) L)) := by
  have w1 : IntKind.wrap .i64 ((a : Int) + 1) = (a : Int) + 1 := by rw [IntKind.wrap_i64]; omega
  go_enter Try.func128, Try.ntmps128
  go_wp2
  go_loopw [8] (fun i' wr => ∃ i k : Nat, a + k + 1 = i ∧ (i ≤ m ∨ k = 0) ∧ i' = .int .i64 i ∧ Mo b w wr ∧ Sl wr b off n (px (insOut a k L)) (py (insOut a k L))) (fun i' _ => m - (intOf i').toNat)
  case atStart => exact ⟨a + 1, 0, rfl, .inr rfl, by simp, Mo.refl _ _, hs⟩
  case round =>
    obtain ⟨i, k, hik, him, rfl, hB, hR⟩ := hrel
    by_cases hlt : i < m
    · have i1 : (i : Int) < (m : Int) := by omega
      obtain ⟨T, hT⟩ : ∃ T, insIn a (k + 1) (insOut a k L) = T := ⟨_, rfl⟩
      have wi : IntKind.wrap .i64 ((i : Int) + 1) = (i : Int) + 1 := by rw [IntKind.wrap_i64]; omega
      go_wp2
      go_loopw [9] (fun j' wr => ∃ (j d : Nat) (M : List Pt), a + d = j ∧ d ≤ k + 1 ∧ insIn a d M = T ∧ M.length = n ∧ Nums M ∧ j' = .int .i64 j ∧ Mo b w wr ∧ Sl wr b off n (px M) (py M)) (fun j' _ => (intOf j').toNat)
      case atStart => exact ⟨i, k + 1, insOut a k L, by omega, Nat.le_refl _, hT, by rw [insOut_len, hl], fun p hp => hN p (insOut_mem a k L (by omega) p hp), rfl, hB, hR⟩
      case round =>
        clear hB hR
        obtain ⟨j, d, M, hjd, hd, hM, hMl, hMn, rfl, hB, hR⟩ := hrel
        by_cases hd0 : d = 0
        · subst hd0
          have j1 : ¬ (a : Int) < (j : Int) := by omega
          have j0 : ¬ a < j := by omega
          haveI := belBy_some wr
          go_wp2
          refine wp_region_quiet_bel (by kernel_rfl) (by kernel_rfl) ?_
          repeat (go_big_quiet_step (fail))
          refine wpQuiet_nil ?_
          rintro _ ⟨nq, rfl⟩
          go_wp2
          exact ⟨⟨i + 1, k + 1, by omega, .inl (by omega), by go_num, hB.on nq.h, by rw [show insOut a (k + 1) L = M from hT.trans hM.symm]; exact hR.bel nq.h⟩, by simp [intOf]; omega⟩
        · obtain ⟨e, rfl⟩ : ∃ e, d = e + 1 := ⟨d - 1, by omega⟩
          have j1 : (a : Int) < (j : Int) := by omega
          have j0 : a < j := by omega
          haveI := belBy_some wr
          have j2 : (j : Int) < (n : Int) := by omega
          obtain ⟨q, hq⟩ : ∃ q, q + 1 = j := ⟨j - 1, by omega⟩
          have j3 : (j : Int) - 1 = (q : Int) := by omega
          have wj : IntKind.wrap .i64 (q : Int) = (q : Int) := by rw [IntKind.wrap_i64]; omega
          have q1 : (q : Int) < (n : Int) := by omega
          obtain ⟨x0, x1⟩ := hR j (by omega)
          obtain ⟨x2, x3⟩ := hR q (by omega)
          have y0 := belBy_cell x0
          have y1 := belBy_cell x1
          have y2 := belBy_cell x2
          have y3 := belBy_cell x3
          obtain ⟨m1, m2⟩ : nanK .f64 (px M j) = false ∧ nanK .f64 (py M j) = false := hMn _ (pt_mem (by omega))
          obtain ⟨m3, m4⟩ : nanK .f64 (px M q) = false ∧ nanK .f64 (py M q) = false := hMn _ (pt_mem (by omega))
          by_cases hc : cmpK (px M j) (py M j) (px M q) (py M q) < 0
          · go_wp2
            refine wp_region_quiet_bel (by kernel_rfl) (by kernel_rfl) ?_
            repeat (go_big_quiet_step (first | (go_at_call 83; exact calls_bel (order_d _ _ _ _ _ m1 m2 m3 m4))))
            refine wpQuiet_nil ?_
            rintro _ ⟨nq, rfl⟩
            go_wp2
            have hb' := nq.h
            have z0 := keep hb' x0
            have z1 := keep hb' x1
            have z2 := keep hb' x2
            have z3 := keep hb' x3
            have FQ : ∀ o, nq.world.frozen? ⟨b, o, none⟩ = false := fun o => (hb'.2 _).trans ((hB.fz _).trans ((B0.2 _).trans (fresh_frozen fb)))
            have lq := World.block_lt_of_cell? _ _ z0
            simp only at lq
            go_region
            all_goals go_wp2
            have hS := (hR.bel hb').swap hMl (j := j) (by omega) (by omega)
            rw [show j - 1 = q by omega] at hS
            refine ⟨⟨q, e, swapL M j, by omega, by omega, ?_, by rw [swap_len]; exact hMl, fun p hp => hMn p (swap_mem (by omega) hp), by go_num, (((((hB.on hb').set).set).set).set).drew, hS.drew⟩, by simp [intOf]; omega⟩
            rw [← hM, insIn_go (by rw [show a + e + 1 = j by omega, show a + e = q by omega]; exact hc), show a + e + 1 = j by omega]
          · go_wp2
            refine wp_region_quiet_bel (by kernel_rfl) (by kernel_rfl) ?_
            repeat (go_big_quiet_step (first | (go_at_call 83; exact calls_bel (order_d _ _ _ _ _ m1 m2 m3 m4))))
            refine wpQuiet_nil ?_
            rintro _ ⟨nq, rfl⟩
            go_wp2
            have eM : M = T := by rw [← hM]; refine (insIn_no ?_).symm; rw [show a + e + 1 = j by omega, show a + e = q by omega]; omega
            exact ⟨⟨i + 1, k + 1, by omega, .inl (by omega), by go_num, hB.on nq.h, by rw [show insOut a (k + 1) L = M from hT.trans eM.symm]; exact hR.bel nq.h⟩, by simp [intOf]; omega⟩
    · have hnk : m - a - 1 = k := by omega
      go_wp2
      refine bodyPost_end (results_none rfl _ _ _) rfl ⟨rfl, hB, ?_⟩
      rw [hnk]; exact hR

end Go.Proofs.Ytnbkjkbgfcpcfaa
