/-
  What each function of package poly answers, and what the reference of its chapter answers: one contract a function, for every float: the answer stands in the relation of its formula to what was given; of the memory that was there nothing has turned.
-/
import Derived.Test.YtfohggiehbplkaaVec
import Derived.Test.YtfohggiehbplkaaKb
import Derived.Below
import Derived.WalkKit
import Derived.WalkLawsBesides
import Derived.WalkSpells
import Derived.ProofKit
import Derived.OpenShut
import Derived.Deep.RegionHeld3
namespace Go.Proofs.Ytfohggiehbplkaa
open Go.ChangeShapes Go.WideShapes Go.ChangeAt Go.RowKit
set_option linter.unusedVariables false
set_option linter.unusedSimpArgs false


set_option maxRecDepth 100000 in
set_option maxHeartbeats 4000000 in
theorem rPair_w (T : TD) (w : World) : Calls Try.prog 94 #[.agg #[.int .i64 T.ta, .int .i64 T.tp, .int .i64 T.tb, .int .i64 T.tq]] w fun e w' => e = .returned (.bool (prB T)) ∧ Bel w w' := by
  have hA : (w.alloc (.cells #[.int .i64 T.ta, .int .i64 T.tp, .int .i64 T.tb, .int .i64 T.tq] 23)).rangeAt w.heap.size 0 [.int .i64 T.ta, .int .i64 T.tp, .int .i64 T.tb, .int .i64 T.tq] := rng_new w [.int .i64 T.ta, .int .i64 T.tp, .int .i64 T.tb, .int .i64 T.tq] 23
  have k0 : (w.alloc (.cells #[.int .i64 T.ta, .int .i64 T.tp, .int .i64 T.tb, .int .i64 T.tq] 23)).cell? ⟨w.heap.size, 0, none⟩ = some (.int .i64 T.ta) := hA 0 _ rfl
  have k1 : (w.alloc (.cells #[.int .i64 T.ta, .int .i64 T.tp, .int .i64 T.tb, .int .i64 T.tq] 23)).cell? ⟨w.heap.size, 1, none⟩ = some (.int .i64 T.tp) := hA 1 _ rfl
  have k2 : (w.alloc (.cells #[.int .i64 T.ta, .int .i64 T.tp, .int .i64 T.tb, .int .i64 T.tq] 23)).cell? ⟨w.heap.size, 2, none⟩ = some (.int .i64 T.tb) := hA 2 _ rfl
  have k3 : (w.alloc (.cells #[.int .i64 T.ta, .int .i64 T.tp, .int .i64 T.tb, .int .i64 T.tq] 23)).cell? ⟨w.heap.size, 3, none⟩ = some (.int .i64 T.tq) := hA 3 _ rfl
  have B0 : Bel w (w.alloc (.cells #[.int .i64 T.ta, .int .i64 T.tp, .int .i64 T.tb, .int .i64 T.tq] 23)) := bl_alloc (bl_refl w) _ _
  clear hA
  by_cases h0 : 0 ≤ T.ta
  rotate_left
  · have nh0 : T.ta < 0 := by omega
    have e : prB T = false := by simp [prB, ptB, h0]
    rw [e]
    go_enter Try.func94, Try.ntmps94
    repeat (first | go_values | go_skip | go_guarded | go_step | go_upon | go_back | dsimp only)
    go_ret
    exact ⟨rfl, B0⟩
  by_cases h1 : 0 ≤ T.tb
  rotate_left
  · have nh1 : T.tb < 0 := by omega
    have e : prB T = false := by simp [prB, ptB, h0, h1]
    rw [e]
    go_enter Try.func94, Try.ntmps94
    repeat (first | go_values | go_skip | go_guarded | go_step | go_upon | go_back | dsimp only)
    go_ret
    exact ⟨rfl, B0⟩
  cases h2 : (T.ta != T.tb)
  · have e : prB T = false := by simp [prB, ptB, h0, h1, h2]
    rw [e]
    go_enter Try.func94, Try.ntmps94
    repeat (first | go_values | go_skip | go_guarded | go_step | go_upon | go_back | dsimp only)
    go_ret
    exact ⟨rfl, B0⟩
  by_cases h3 : 0 ≤ T.tp
  rotate_left
  · have nh3 : T.tp < 0 := by omega
    have e : prB T = false := by unfold prB; rw [show ptB T.tp = false from by unfold ptB; exact decide_eq_false (by omega)]; simp
    rw [e]
    go_enter Try.func94, Try.ntmps94
    repeat (first | go_values | go_skip | go_guarded | go_step | go_upon | go_back | dsimp only)
    go_ret
    exact ⟨rfl, B0⟩
  by_cases h4 : T.tp < 8
  rotate_left
  · have nh4 : 8 ≤ T.tp := by omega
    have e : prB T = false := by unfold prB; rw [show ptB T.tp = false from by unfold ptB; exact decide_eq_false (by omega)]; simp
    rw [e]
    go_enter Try.func94, Try.ntmps94
    repeat (first | go_values | go_skip | go_guarded | go_step | go_upon | go_back | dsimp only)
    go_ret
    exact ⟨rfl, B0⟩
  by_cases h5 : 0 ≤ T.tq
  rotate_left
  · have nh5 : T.tq < 0 := by omega
    have e : prB T = false := by unfold prB; rw [show ptB T.tq = false from by unfold ptB; exact decide_eq_false (by omega)]; simp
    rw [e]
    go_enter Try.func94, Try.ntmps94
    repeat (first | go_values | go_skip | go_guarded | go_step | go_upon | go_back | dsimp only)
    go_ret
    exact ⟨rfl, B0⟩
  by_cases h6 : T.tq < 8
  rotate_left
  · have nh6 : 8 ≤ T.tq := by omega
    have e : prB T = false := by unfold prB; rw [show ptB T.tq = false from by unfold ptB; exact decide_eq_false (by omega)]; simp
    rw [e]
    go_enter Try.func94, Try.ntmps94
    repeat (first | go_values | go_skip | go_guarded | go_step | go_upon | go_back | dsimp only)
    go_ret
    exact ⟨rfl, B0⟩
  have e : prB T = true := by simp [prB, ptB, h0, h1, h2, h3, h4, h5, h6]
  rw [e]
  go_enter Try.func94, Try.ntmps94
  repeat (first | go_values | go_skip | go_guarded | go_step | go_upon | go_back | dsimp only)
  go_ret
  exact ⟨rfl, B0⟩

set_option maxRecDepth 100000 in
set_option maxHeartbeats 4000000 in
theorem rUnit_w (x y : Nat) (w : World) : Calls Try.prog 95 #[.agg #[.float .f64 x, .float .f64 y]] w fun e w' => e = .returned (.bool (unB x y)) ∧ Bel w w' := by
  have c1 := cmp_ge .f64
  have c2 := cmp_le .f64
  have B0 : Bel w (w.alloc (.cells #[.float .f64 x, .float .f64 y] 26)) := bl_alloc (bl_refl w) _ _
  have hA : (w.alloc (.cells #[.float .f64 x, .float .f64 y] 26)).rangeAt w.heap.size 0 [.float .f64 x, .float .f64 y] := rng_new w [.float .f64 x, .float .f64 y] 26
  go_enter Try.func95, Try.ntmps95
  repeat (first | ((with_reducible show Oper.wp _ { dst := _, op := Op.load 26 _, type := _, pos := _, after := _, guard := _ } _ _ _ _); refine wp_load_mid (P := Try.prog) 26 _ rfl _ _ rfl [.float .f64 x, .float .f64 y] _ hA Try.underlying26 rfl (by kernel_rfl) ?_; simp only [go_sem]) | (go_at_call 141; (with_reducible refine (rSquare_any x y _).mono ?_); rintro e w' ⟨r, hr, rfl, hb⟩; have eU := un_is hr; cases h1 : leK .f64 4607182418800009216 r) | go_values | go_skip | go_guarded | go_step | go_upon | go_back | dsimp only)
  all_goals
    repeat (first | go_values | go_skip | go_guarded | go_step | go_upon | go_back | dsimp only)
    go_ret
    exact ⟨by rw [eU, h1]; rfl, bl_trans B0 hb⟩

set_option maxRecDepth 100000 in
set_option maxHeartbeats 4000000 in
theorem rck_ok (T : TD) (pb po pn pc_ : Nat) (ps : Option Addr) (P : Nat → PD) (w : World) (hps : pn = 0 ∨ ps = some ⟨pb, po, none⟩) (hpc : pn ≤ pc_) (hpm : pc_ ≤ maxLen) (hp : Pts w pb po pn P) (op : ∀ i, i < pn → pok (P i)) (oT : okK .f64 T.tx ∧ okK .f64 T.ty) (h0 : prB T = true) (h1 : (withinK .f64 T.tx 4611686018427387904 && withinK .f64 T.ty 4611686018427387904) = true) (h2 : unB T.tx T.ty = true) (h3 : 1 ≤ pn) (h4 : pn ≤ 8) : Calls Try.prog 51 #[.agg #[.int .i64 T.ta, .int .i64 T.tp, .int .i64 T.tb, .int .i64 T.tq, .bool T.ts, .float .f64 T.tx, .float .f64 T.ty, .slice ps pn pc_]] w fun e w' => e = .returned (.int .i64 (ckE T pn P)) ∧ Bel w w' := by
  have hpm9 := hpm
  unfold maxLen at hpm
  have okT : okK .f64 4611686018427387904 := by rw [okK64]; decide
  have okF : okK .f64 4796333603149578240 := by rw [okK64]; decide
  have okM : okK .f64 4787326403894837248 := by rw [okK64]; decide
  have c1 := cmp_ge .f64
  have c2 := cmp_le .f64
  have hA : (w.alloc (.cells #[.int .i64 T.ta, .int .i64 T.tp, .int .i64 T.tb, .int .i64 T.tq, .bool T.ts, .float .f64 T.tx, .float .f64 T.ty, .slice ps pn pc_] 29)).rangeAt w.heap.size 0 [.int .i64 T.ta, .int .i64 T.tp, .int .i64 T.tb, .int .i64 T.tq, .bool T.ts, .float .f64 T.tx, .float .f64 T.ty, .slice ps pn pc_] := rng_new w [.int .i64 T.ta, .int .i64 T.tp, .int .i64 T.tb, .int .i64 T.tq, .bool T.ts, .float .f64 T.tx, .float .f64 T.ty, .slice ps pn pc_] 29
  have BB : Bel w (w.alloc (.cells #[.int .i64 T.ta, .int .i64 T.tp, .int .i64 T.tb, .int .i64 T.tq, .bool T.ts, .float .f64 T.tx, .float .f64 T.ty, .slice ps pn pc_] 29)) := bl_alloc (bl_refl w) _ _
  have hPr : (w.alloc (.cells #[.int .i64 T.ta, .int .i64 T.tp, .int .i64 T.tb, .int .i64 T.tq, .bool T.ts, .float .f64 T.tx, .float .f64 T.ty, .slice ps pn pc_] 29)).rangeAt w.heap.size 0 [.int .i64 T.ta, .int .i64 T.tp, .int .i64 T.tb, .int .i64 T.tq] := rng_mid 0 4 hA
  have hN : (w.alloc (.cells #[.int .i64 T.ta, .int .i64 T.tp, .int .i64 T.tb, .int .i64 T.tq, .bool T.ts, .float .f64 T.tx, .float .f64 T.ty, .slice ps pn pc_] 29)).rangeAt w.heap.size 5 [.float .f64 T.tx, .float .f64 T.ty] := by have h := rng_mid 5 2 hA; rwa [Nat.zero_add] at h
  have kS : (w.alloc (.cells #[.int .i64 T.ta, .int .i64 T.tp, .int .i64 T.tb, .int .i64 T.tq, .bool T.ts, .float .f64 T.tx, .float .f64 T.ty, .slice ps pn pc_] 29)).cell? ⟨w.heap.size, 7, none⟩ = some (.slice ps pn pc_) := hA 7 _ rfl
  clear hA
  have nI : ¬ (pn : Int) < 1 := by omega
  have nJ : ¬ (8 : Int) < (pn : Int) := by omega
  have e9 : ps = some ⟨pb, po, none⟩ := by rcases hps with h | h; omega; exact h
  subst e9
  go_enter Try.func51, Try.ntmps51
  repeat (first | ((with_reducible show Oper.wp _ { dst := _, op := Op.load 23 _, type := _, pos := _, after := _, guard := _ } _ _ _ _); refine wp_load_mid (P := Try.prog) 23 _ rfl _ _ rfl [.int .i64 T.ta, .int .i64 T.tp, .int .i64 T.tb, .int .i64 T.tq] _ hPr Try.underlying23 rfl (by kernel_rfl) ?_; simp only [go_sem]) | (go_at_call 94; (with_reducible refine (rPair_w T _).mono ?_); rintro e w1 ⟨rfl, hb1⟩; rw [h0]; replace hN := rng_bel hN hb1; replace kS := keep hb1 kS; replace BB := bl_trans BB hb1) | ((with_reducible show Oper.wp _ { dst := _, op := Op.load 26 _, type := _, pos := _, after := _, guard := _ } _ _ _ _); refine wp_load_mid (P := Try.prog) 26 _ rfl _ _ rfl [.float .f64 T.tx, .float .f64 T.ty] _ hN Try.underlying26 rfl (by kernel_rfl) ?_; simp only [go_sem]) | (go_at_call 95; (with_reducible refine (rUnit_w T.tx T.ty _).mono ?_); rintro e w2 ⟨rfl, hb2⟩; rw [h2]; replace hN := rng_bel hN hb2; replace kS := keep hb2 kS; replace BB := bl_trans BB hb2) | (go_at_call 96; (with_reducible refine (rWithin_any T.tx T.ty 4611686018427387904 oT.1 oT.2 okT _).mono ?_); rintro e w3 ⟨rfl, hb3⟩; rw [h1]; replace hN := rng_bel hN hb3; replace kS := keep hb3 kS; replace BB := bl_trans BB hb3) | go_values | go_skip | go_guarded | go_step | go_upon | go_back | dsimp only)
  go_loopw [6] (fun i wr => ∃ k : Nat, k ≤ pn ∧ i = .int .i64 k ∧ Bel w wr ∧ wr.cell? ⟨w.heap.size, 7, none⟩ = some (.slice (some ⟨pb, po, none⟩) pn pc_) ∧ allP P k = true) (fun i _ => pn - (intOf i).toNat)
  case atStart => exact ⟨0, by omega, rfl, BB, kS, rfl⟩
  case round =>
    clear kS BB hN
    obtain ⟨k, hk, rfl, hB, kS9, hall⟩ := hrel
    by_cases hlt : k < pn
    · have hld : wr.rangeAt pb (po + k * 6) [.float .f64 (P k).x, .float .f64 (P k).y, .float .f64 (P k).dp, .int .u32 (P k).id, .float .f64 (P k).pu, .float .f64 (P k).dr] := (hp.bel hB) k hlt
      obtain ⟨oq0, oq1, oq2, oq3, oq4⟩ := op k hlt
      have hkI : (k : Int) < (pn : Int) := by omega
      have hcI : (k : Int) < (pc_ : Int) := by omega
      have hX : (wr.alloc (.cells #[.float .f64 0, .float .f64 0, .float .f64 0, .int .u32 0, .float .f64 0, .float .f64 0] 39)).there wr.heap.size 0 6 := there_new wr [.float .f64 0, .float .f64 0, .float .f64 0, .int .u32 0, .float .f64 0, .float .f64 0] 39
      have cX : ((wr.alloc (.cells #[.float .f64 0, .float .f64 0, .float .f64 0, .int .u32 0, .float .f64 0, .float .f64 0] 39)).setCells wr.heap.size 0 [.float .f64 (P k).x, .float .f64 (P k).y, .float .f64 (P k).dp, .int .u32 (P k).id, .float .f64 (P k).pu, .float .f64 (P k).dr]).rangeAt wr.heap.size 0 [.float .f64 (P k).x, .float .f64 (P k).y, .float .f64 (P k).dp, .int .u32 (P k).id, .float .f64 (P k).pu, .float .f64 (P k).dr] := World.rangeAt_setCells_same _ _ _ _ hX
      have hB2 : Bel wr ((wr.alloc (.cells #[.float .f64 0, .float .f64 0, .float .f64 0, .int .u32 0, .float .f64 0, .float .f64 0] 39)).setCells wr.heap.size 0 [.float .f64 (P k).x, .float .f64 (P k).y, .float .f64 (P k).dp, .int .u32 (P k).id, .float .f64 (P k).pu, .float .f64 (P k).dr]) := bel_setsJ _ _ (bl_alloc (bl_refl _) _ _) (Nat.le_refl _)
      have kS := keep hB2 kS9
      have hBB := bl_trans hB hB2
      cases hA : (withinK .f64 (P k).x 4796333603149578240 && withinK .f64 (P k).y 4796333603149578240)
      · have e8 : poB (P k) = false := by unfold poB wkP; revert hA; cases (withinK .f64 (P k).x 4796333603149578240 && withinK .f64 (P k).y 4796333603149578240) <;> cases withinK .f64 (P k).pu 4787326403894837248 <;> cases withinK .f64 (P k).dr 4787326403894837248 <;> cases leK .f64 0 (P k).dp <;> cases leK .f64 (P k).dp 4796333603149578240 <;> simp
        have e9 : ckE T pn P = 2 := ck_two (fun h => by rw [allP_no (by rw [e8, Bool.and_false]) hlt] at h; exact absurd h.2.2 (by decide))
        repeat (first | ((with_reducible show Oper.wp _ { dst := _, op := Op.load 39 _, type := _, pos := _, after := _, guard := _ } _ _ _ _); refine wp_load_mid (P := Try.prog) 39 _ rfl _ _ rfl [.float .f64 (P k).x, .float .f64 (P k).y, .float .f64 (P k).dp, .int .u32 (P k).id, .float .f64 (P k).pu, .float .f64 (P k).dr] _ hld Try.underlying39 rfl (by kernel_rfl) ?_; simp only [go_sem]) | ((with_reducible show Oper.wp _ { dst := _, op := Op.store 39 _ _, type := _, pos := _, after := _, guard := _ } _ _ _ _); refine wp_store_mid (P := Try.prog) 39 _ _ rfl (wr.heap.size) (0) #[.float .f64 (P k).x, .float .f64 (P k).y, .float .f64 (P k).dp, .int .u32 (P k).id, .float .f64 (P k).pu, .float .f64 (P k).dr] rfl rfl hX (by kernel_rfl) (by kernel_rfl) ?_; (try simp only [go_sem])) | (with_reducible show Oper.wp _ { dst := _, op := Op.load 26 _, type := _, pos := _, after := _, guard := _ } _ _ _ _; refine wp_load_mid (P := Try.prog) 26 _ rfl _ _ rfl [.float .f64 (P k).x, .float .f64 (P k).y] _ (rng_mid 0 2 cX) Try.underlying26 rfl (by kernel_rfl) ?_; (try simp only [go_sem])) | (go_at_call 96; (with_reducible refine (rWithin_any (P k).x (P k).y 4796333603149578240 oq0 oq1 okF _).mono ?_); rintro e w4 ⟨rfl, hb4⟩; rw [hA]; replace kS := keep hb4 kS; replace cX := rng_bel cX hb4; replace hBB := bl_trans hBB hb4; have k4 := cX 4 _ rfl; have k5 := cX 5 _ rfl; rw [Nat.zero_add] at k4 k5) | (go_at_call 97; (with_reducible refine (rVec_any (P k).pu (P k).dr _).mono ?_); rintro e w5 ⟨rfl, hb5⟩; replace kS := keep hb5 kS; replace cX := rng_bel cX hb5; replace hBB := bl_trans hBB hb5) | (go_at_call 96; (with_reducible refine (rWithin_any (P k).pu (P k).dr 4787326403894837248 oq3 oq4 okM _).mono ?_); rintro e w6 ⟨rfl, hb6⟩; replace kS := keep hb6 kS; replace cX := rng_bel cX hb6; replace hBB := bl_trans hBB hb6; have k2 := cX 2 _ rfl; rw [Nat.zero_add] at k2) | go_values | go_skip | go_guarded | go_step | go_upon | go_back | dsimp only)
        go_ret
        exact ⟨by rw [e9]; rfl, hBB⟩
      cases hO : (withinK .f64 (P k).pu 4787326403894837248 && withinK .f64 (P k).dr 4787326403894837248)
      · have e8 : poB (P k) = false := by unfold poB wkP; revert hA hO; cases (withinK .f64 (P k).x 4796333603149578240 && withinK .f64 (P k).y 4796333603149578240) <;> cases withinK .f64 (P k).pu 4787326403894837248 <;> cases withinK .f64 (P k).dr 4787326403894837248 <;> cases leK .f64 0 (P k).dp <;> cases leK .f64 (P k).dp 4796333603149578240 <;> simp
        have e9 : ckE T pn P = 2 := ck_two (fun h => by rw [allP_no (by rw [e8, Bool.and_false]) hlt] at h; exact absurd h.2.2 (by decide))
        repeat (first | ((with_reducible show Oper.wp _ { dst := _, op := Op.load 39 _, type := _, pos := _, after := _, guard := _ } _ _ _ _); refine wp_load_mid (P := Try.prog) 39 _ rfl _ _ rfl [.float .f64 (P k).x, .float .f64 (P k).y, .float .f64 (P k).dp, .int .u32 (P k).id, .float .f64 (P k).pu, .float .f64 (P k).dr] _ hld Try.underlying39 rfl (by kernel_rfl) ?_; simp only [go_sem]) | ((with_reducible show Oper.wp _ { dst := _, op := Op.store 39 _ _, type := _, pos := _, after := _, guard := _ } _ _ _ _); refine wp_store_mid (P := Try.prog) 39 _ _ rfl (wr.heap.size) (0) #[.float .f64 (P k).x, .float .f64 (P k).y, .float .f64 (P k).dp, .int .u32 (P k).id, .float .f64 (P k).pu, .float .f64 (P k).dr] rfl rfl hX (by kernel_rfl) (by kernel_rfl) ?_; (try simp only [go_sem])) | (with_reducible show Oper.wp _ { dst := _, op := Op.load 26 _, type := _, pos := _, after := _, guard := _ } _ _ _ _; refine wp_load_mid (P := Try.prog) 26 _ rfl _ _ rfl [.float .f64 (P k).x, .float .f64 (P k).y] _ (rng_mid 0 2 cX) Try.underlying26 rfl (by kernel_rfl) ?_; (try simp only [go_sem])) | (go_at_call 96; (with_reducible refine (rWithin_any (P k).x (P k).y 4796333603149578240 oq0 oq1 okF _).mono ?_); rintro e w4 ⟨rfl, hb4⟩; rw [hA]; replace kS := keep hb4 kS; replace cX := rng_bel cX hb4; replace hBB := bl_trans hBB hb4; have k4 := cX 4 _ rfl; have k5 := cX 5 _ rfl; rw [Nat.zero_add] at k4 k5) | (go_at_call 97; (with_reducible refine (rVec_any (P k).pu (P k).dr _).mono ?_); rintro e w5 ⟨rfl, hb5⟩; replace kS := keep hb5 kS; replace cX := rng_bel cX hb5; replace hBB := bl_trans hBB hb5) | (go_at_call 96; (with_reducible refine (rWithin_any (P k).pu (P k).dr 4787326403894837248 oq3 oq4 okM _).mono ?_); rintro e w6 ⟨rfl, hb6⟩; rw [hO]; replace kS := keep hb6 kS; replace cX := rng_bel cX hb6; replace hBB := bl_trans hBB hb6; have k2 := cX 2 _ rfl; rw [Nat.zero_add] at k2) | go_values | go_skip | go_guarded | go_step | go_upon | go_back | dsimp only)
        go_ret
        exact ⟨by rw [e9]; rfl, hBB⟩
      cases hD : leK .f64 0 (P k).dp
      · have e8 : poB (P k) = false := by unfold poB wkP; revert hA hO hD; cases (withinK .f64 (P k).x 4796333603149578240 && withinK .f64 (P k).y 4796333603149578240) <;> cases withinK .f64 (P k).pu 4787326403894837248 <;> cases withinK .f64 (P k).dr 4787326403894837248 <;> cases leK .f64 0 (P k).dp <;> cases leK .f64 (P k).dp 4796333603149578240 <;> simp
        have e9 : ckE T pn P = 2 := ck_two (fun h => by rw [allP_no (by rw [e8, Bool.and_false]) hlt] at h; exact absurd h.2.2 (by decide))
        repeat (first | ((with_reducible show Oper.wp _ { dst := _, op := Op.load 39 _, type := _, pos := _, after := _, guard := _ } _ _ _ _); refine wp_load_mid (P := Try.prog) 39 _ rfl _ _ rfl [.float .f64 (P k).x, .float .f64 (P k).y, .float .f64 (P k).dp, .int .u32 (P k).id, .float .f64 (P k).pu, .float .f64 (P k).dr] _ hld Try.underlying39 rfl (by kernel_rfl) ?_; simp only [go_sem]) | ((with_reducible show Oper.wp _ { dst := _, op := Op.store 39 _ _, type := _, pos := _, after := _, guard := _ } _ _ _ _); refine wp_store_mid (P := Try.prog) 39 _ _ rfl (wr.heap.size) (0) #[.float .f64 (P k).x, .float .f64 (P k).y, .float .f64 (P k).dp, .int .u32 (P k).id, .float .f64 (P k).pu, .float .f64 (P k).dr] rfl rfl hX (by kernel_rfl) (by kernel_rfl) ?_; (try simp only [go_sem])) | (with_reducible show Oper.wp _ { dst := _, op := Op.load 26 _, type := _, pos := _, after := _, guard := _ } _ _ _ _; refine wp_load_mid (P := Try.prog) 26 _ rfl _ _ rfl [.float .f64 (P k).x, .float .f64 (P k).y] _ (rng_mid 0 2 cX) Try.underlying26 rfl (by kernel_rfl) ?_; (try simp only [go_sem])) | (go_at_call 96; (with_reducible refine (rWithin_any (P k).x (P k).y 4796333603149578240 oq0 oq1 okF _).mono ?_); rintro e w4 ⟨rfl, hb4⟩; rw [hA]; replace kS := keep hb4 kS; replace cX := rng_bel cX hb4; replace hBB := bl_trans hBB hb4; have k4 := cX 4 _ rfl; have k5 := cX 5 _ rfl; rw [Nat.zero_add] at k4 k5) | (go_at_call 97; (with_reducible refine (rVec_any (P k).pu (P k).dr _).mono ?_); rintro e w5 ⟨rfl, hb5⟩; replace kS := keep hb5 kS; replace cX := rng_bel cX hb5; replace hBB := bl_trans hBB hb5) | (go_at_call 96; (with_reducible refine (rWithin_any (P k).pu (P k).dr 4787326403894837248 oq3 oq4 okM _).mono ?_); rintro e w6 ⟨rfl, hb6⟩; rw [hO]; replace kS := keep hb6 kS; replace cX := rng_bel cX hb6; replace hBB := bl_trans hBB hb6; have k2 := cX 2 _ rfl; rw [Nat.zero_add] at k2) | go_values | go_skip | go_guarded | go_step | go_upon | go_back | dsimp only)
        go_ret
        exact ⟨by rw [e9]; rfl, hBB⟩
      cases hE : leK .f64 (P k).dp 4796333603149578240
      · have e8 : poB (P k) = false := by unfold poB wkP; revert hA hO hD hE; cases (withinK .f64 (P k).x 4796333603149578240 && withinK .f64 (P k).y 4796333603149578240) <;> cases withinK .f64 (P k).pu 4787326403894837248 <;> cases withinK .f64 (P k).dr 4787326403894837248 <;> cases leK .f64 0 (P k).dp <;> cases leK .f64 (P k).dp 4796333603149578240 <;> simp
        have e9 : ckE T pn P = 2 := ck_two (fun h => by rw [allP_no (by rw [e8, Bool.and_false]) hlt] at h; exact absurd h.2.2 (by decide))
        repeat (first | ((with_reducible show Oper.wp _ { dst := _, op := Op.load 39 _, type := _, pos := _, after := _, guard := _ } _ _ _ _); refine wp_load_mid (P := Try.prog) 39 _ rfl _ _ rfl [.float .f64 (P k).x, .float .f64 (P k).y, .float .f64 (P k).dp, .int .u32 (P k).id, .float .f64 (P k).pu, .float .f64 (P k).dr] _ hld Try.underlying39 rfl (by kernel_rfl) ?_; simp only [go_sem]) | ((with_reducible show Oper.wp _ { dst := _, op := Op.store 39 _ _, type := _, pos := _, after := _, guard := _ } _ _ _ _); refine wp_store_mid (P := Try.prog) 39 _ _ rfl (wr.heap.size) (0) #[.float .f64 (P k).x, .float .f64 (P k).y, .float .f64 (P k).dp, .int .u32 (P k).id, .float .f64 (P k).pu, .float .f64 (P k).dr] rfl rfl hX (by kernel_rfl) (by kernel_rfl) ?_; (try simp only [go_sem])) | (with_reducible show Oper.wp _ { dst := _, op := Op.load 26 _, type := _, pos := _, after := _, guard := _ } _ _ _ _; refine wp_load_mid (P := Try.prog) 26 _ rfl _ _ rfl [.float .f64 (P k).x, .float .f64 (P k).y] _ (rng_mid 0 2 cX) Try.underlying26 rfl (by kernel_rfl) ?_; (try simp only [go_sem])) | (go_at_call 96; (with_reducible refine (rWithin_any (P k).x (P k).y 4796333603149578240 oq0 oq1 okF _).mono ?_); rintro e w4 ⟨rfl, hb4⟩; rw [hA]; replace kS := keep hb4 kS; replace cX := rng_bel cX hb4; replace hBB := bl_trans hBB hb4; have k4 := cX 4 _ rfl; have k5 := cX 5 _ rfl; rw [Nat.zero_add] at k4 k5) | (go_at_call 97; (with_reducible refine (rVec_any (P k).pu (P k).dr _).mono ?_); rintro e w5 ⟨rfl, hb5⟩; replace kS := keep hb5 kS; replace cX := rng_bel cX hb5; replace hBB := bl_trans hBB hb5) | (go_at_call 96; (with_reducible refine (rWithin_any (P k).pu (P k).dr 4787326403894837248 oq3 oq4 okM _).mono ?_); rintro e w6 ⟨rfl, hb6⟩; rw [hO]; replace kS := keep hb6 kS; replace cX := rng_bel cX hb6; replace hBB := bl_trans hBB hb6; have k2 := cX 2 _ rfl; rw [Nat.zero_add] at k2) | go_values | go_skip | go_guarded | go_step | go_upon | go_back | dsimp only)
        go_ret
        exact ⟨by rw [e9]; rfl, hBB⟩
      have e8 : poB (P k) = true := by unfold poB wkP; revert hA hO hD hE; cases (withinK .f64 (P k).x 4796333603149578240 && withinK .f64 (P k).y 4796333603149578240) <;> cases withinK .f64 (P k).pu 4787326403894837248 <;> cases withinK .f64 (P k).dr 4787326403894837248 <;> cases leK .f64 0 (P k).dp <;> cases leK .f64 (P k).dp 4796333603149578240 <;> simp
      repeat (first | ((with_reducible show Oper.wp _ { dst := _, op := Op.load 39 _, type := _, pos := _, after := _, guard := _ } _ _ _ _); refine wp_load_mid (P := Try.prog) 39 _ rfl _ _ rfl [.float .f64 (P k).x, .float .f64 (P k).y, .float .f64 (P k).dp, .int .u32 (P k).id, .float .f64 (P k).pu, .float .f64 (P k).dr] _ hld Try.underlying39 rfl (by kernel_rfl) ?_; simp only [go_sem]) | ((with_reducible show Oper.wp _ { dst := _, op := Op.store 39 _ _, type := _, pos := _, after := _, guard := _ } _ _ _ _); refine wp_store_mid (P := Try.prog) 39 _ _ rfl (wr.heap.size) (0) #[.float .f64 (P k).x, .float .f64 (P k).y, .float .f64 (P k).dp, .int .u32 (P k).id, .float .f64 (P k).pu, .float .f64 (P k).dr] rfl rfl hX (by kernel_rfl) (by kernel_rfl) ?_; (try simp only [go_sem])) | (with_reducible show Oper.wp _ { dst := _, op := Op.load 26 _, type := _, pos := _, after := _, guard := _ } _ _ _ _; refine wp_load_mid (P := Try.prog) 26 _ rfl _ _ rfl [.float .f64 (P k).x, .float .f64 (P k).y] _ (rng_mid 0 2 cX) Try.underlying26 rfl (by kernel_rfl) ?_; (try simp only [go_sem])) | (go_at_call 96; (with_reducible refine (rWithin_any (P k).x (P k).y 4796333603149578240 oq0 oq1 okF _).mono ?_); rintro e w4 ⟨rfl, hb4⟩; rw [hA]; replace kS := keep hb4 kS; replace cX := rng_bel cX hb4; replace hBB := bl_trans hBB hb4; have k4 := cX 4 _ rfl; have k5 := cX 5 _ rfl; rw [Nat.zero_add] at k4 k5) | (go_at_call 97; (with_reducible refine (rVec_any (P k).pu (P k).dr _).mono ?_); rintro e w5 ⟨rfl, hb5⟩; replace kS := keep hb5 kS; replace cX := rng_bel cX hb5; replace hBB := bl_trans hBB hb5) | (go_at_call 96; (with_reducible refine (rWithin_any (P k).pu (P k).dr 4787326403894837248 oq3 oq4 okM _).mono ?_); rintro e w6 ⟨rfl, hb6⟩; rw [hO]; replace kS := keep hb6 kS; replace cX := rng_bel cX hb6; replace hBB := bl_trans hBB hb6; have k2 := cX 2 _ rfl; rw [Nat.zero_add] at k2) | go_values | go_skip | go_guarded | go_step | go_upon | go_back | dsimp only)
      generalize hbx : wr.heap.size = bx at cX ⊢
      go_loopw [10] (fun i wr => ∃ j : Nat, j ≤ k ∧ i = .int .i64 j ∧ Bel w wr ∧ wr.cell? ⟨w.heap.size, 7, none⟩ = some (.slice (some ⟨pb, po, none⟩) pn pc_) ∧ wr.rangeAt bx 0 [.float .f64 (P k).x, .float .f64 (P k).y, .float .f64 (P k).dp, .int .u32 (P k).id, .float .f64 (P k).pu, .float .f64 (P k).dr] ∧ hasB P (P k).id j = false) (fun i _ => k - (intOf i).toNat)
      case atStart => exact ⟨0, by omega, rfl, hBB, kS, cX, rfl⟩
      case round =>
        obtain ⟨j, hj, rfl, hBj, kSj, cXj, hhas⟩ := hrel
        by_cases hjk : j < k
        · have hjI : (j : Int) < (k : Int) := by omega
          have hjN : (j : Int) < (pn : Int) := by omega
          have hjC : (j : Int) < (pc_ : Int) := by omega
          have cj3 : wr.cell? ⟨bx, 3, none⟩ = some (.int .u32 (P k).id) := cXj 3 _ rfl
          have cid : wr.cell? ⟨pb, po + j * 6 + 3, none⟩ = some (.int .u32 (P j).id) := ((hp.bel hBj) j (by omega)) 3 _ rfl
          repeat (first | go_values | go_skip | go_guarded | go_step | go_upon | go_back | dsimp only)
          refine wp_region_mono 9 rfl (fun i W v => match i with | 0 => v = .pointer (some ⟨w.heap.size, 7, none⟩) | 1 => v = .slice (some ⟨pb, po, none⟩) pn pc_ | 2 => v = .int .i64 (j : Int) | 3 => v = .pointer (some ⟨pb, po + j * 6, none⟩) | 4 => v = .pointer (some ⟨pb, po + j * 6 + 3, none⟩) | 5 => v = .int .u32 (P j).id | 6 => v = .pointer (some ⟨bx, 3, none⟩) | 7 => v = .int .u32 (P k).id | 8 => v = .bool (decide ((P j).id = (P k).id)) | _ => False) ?A_wd (by kernel_rfl) (by kernel_rfl) ?hA_wd ?hmo_wd ?hq_wd ?ht_wd
          case hA_wd =>
            intro s
            simp only [putL, dstO, Act.put, List.getElem?_toArray, List.getElem?_cons_zero, List.getElem?_cons_succ, Option.bind_some, List.setIfInBounds_toArray, List.set_cons_zero, List.set_cons_succ, if_true]
            all_goals exact rfl
          case hmo_wd =>
            intro i W W' v hi hb h
            rcases (show i = 0 ∨ i = 1 ∨ i = 2 ∨ i = 3 ∨ i = 4 ∨ i = 5 ∨ i = 6 ∨ i = 7 ∨ i = 8 by omega) with rfl | rfl | rfl | rfl | rfl | rfl | rfl | rfl | rfl
            all_goals exact h
          case hq_wd =>
            intro i o hi ho s W hs hb K hK
            have u0 := keep hb kSj; have u1 := keep hb cj3; have u2 := keep hb cid
            rcases (show i = 0 ∨ i = 1 ∨ i = 2 ∨ i = 3 ∨ i = 4 ∨ i = 5 ∨ i = 6 ∨ i = 7 ∨ i = 8 by omega) with rfl | rfl | rfl | rfl | rfl | rfl | rfl | rfl | rfl
            · cases ho
              simp only [Act.put, List.setIfInBounds_toArray, List.set_cons_zero, List.set_cons_succ] at hK
              clear hs
              go_simp
              all_goals first | with_reducible exact hK.out _ _ rfl (bl_refl _) | exact hK.out _ _ rfl (bl_refl _)
            · cases ho
              have e0 : s 0 = _ := hs 0 (by decide) (by kernel_rfl)
              simp only [e0] at hK ⊢
              simp only [Act.put, List.setIfInBounds_toArray, List.set_cons_zero, List.set_cons_succ] at hK
              clear hs
              go_simp
              all_goals first | with_reducible exact hK.out _ _ rfl (bl_refl _) | exact hK.out _ _ rfl (bl_refl _)
            · cases ho
              simp only [Act.put, List.setIfInBounds_toArray, List.set_cons_zero, List.set_cons_succ] at hK
              clear hs
              go_simp
              all_goals first | with_reducible exact hK.out _ _ rfl (bl_refl _) | exact hK.out _ _ rfl (bl_refl _)
            · cases ho
              have e1 : s 1 = _ := hs 1 (by decide) (by kernel_rfl)
              have e2 : s 2 = _ := hs 2 (by decide) (by kernel_rfl)
              simp only [e1, e2] at hK ⊢
              simp only [Act.put, List.setIfInBounds_toArray, List.set_cons_zero, List.set_cons_succ] at hK
              clear hs
              go_simp
              all_goals first | with_reducible exact hK.out _ _ rfl (bl_refl _) | exact hK.out _ _ rfl (bl_refl _)
            · cases ho
              have e3 : s 3 = _ := hs 3 (by decide) (by kernel_rfl)
              simp only [e3] at hK ⊢
              simp only [Act.put, List.setIfInBounds_toArray, List.set_cons_zero, List.set_cons_succ] at hK
              clear hs
              go_simp
              all_goals first | with_reducible exact hK.out _ _ rfl (bl_refl _) | exact hK.out _ _ rfl (bl_refl _)
            · cases ho
              have e4 : s 4 = _ := hs 4 (by decide) (by kernel_rfl)
              simp only [e4] at hK ⊢
              simp only [Act.put, List.setIfInBounds_toArray, List.set_cons_zero, List.set_cons_succ] at hK
              clear hs
              go_simp
              all_goals first | with_reducible exact hK.out _ _ rfl (bl_refl _) | exact hK.out _ _ rfl (bl_refl _)
            · cases ho
              simp only [Act.put, List.setIfInBounds_toArray, List.set_cons_zero, List.set_cons_succ] at hK
              clear hs
              go_simp
              all_goals first | with_reducible exact hK.out _ _ rfl (bl_refl _) | exact hK.out _ _ rfl (bl_refl _)
            · cases ho
              have e6 : s 6 = _ := hs 6 (by decide) (by kernel_rfl)
              simp only [e6] at hK ⊢
              simp only [Act.put, List.setIfInBounds_toArray, List.set_cons_zero, List.set_cons_succ] at hK
              clear hs
              go_simp
              all_goals first | with_reducible exact hK.out _ _ rfl (bl_refl _) | exact hK.out _ _ rfl (bl_refl _)
            · cases ho
              have e5 : s 5 = _ := hs 5 (by decide) (by kernel_rfl)
              have e7 : s 7 = _ := hs 7 (by decide) (by kernel_rfl)
              simp only [e5, e7] at hK ⊢
              simp only [Act.put, List.setIfInBounds_toArray, List.set_cons_zero, List.set_cons_succ] at hK
              clear hs
              go_simp
              all_goals first | with_reducible exact hK.out _ _ rfl (bl_refl _) | exact hK.out _ _ rfl (bl_refl _)
          case ht_wd =>
            intro s W hs hb
            have e0 : s 0 = _ := hs 0 (by decide)
            have e1 : s 1 = _ := hs 1 (by decide)
            have e2 : s 2 = _ := hs 2 (by decide)
            have e3 : s 3 = _ := hs 3 (by decide)
            have e4 : s 4 = _ := hs 4 (by decide)
            have e5 : s 5 = _ := hs 5 (by decide)
            have e6 : s 6 = _ := hs 6 (by decide)
            have e7 : s 7 = _ := hs 7 (by decide)
            have e8 : s 8 = _ := hs 8 (by decide)
            simp only [e0, e1, e2, e3, e4, e5, e6, e7, e8]
            clear hs e0 e1 e2 e3 e4 e5 e6 e7 e8
            cases h : decide ((P j).id = (P k).id)
            · repeat (first | go_values | go_skip | go_guarded | go_step | go_upon | go_back | dsimp only)
              refine ⟨⟨j + 1, by omega, by go_num, bl_trans hBj hb, keep hb kSj, rng_bel cXj hb, ?_⟩, by simp [intOf]; omega⟩
              unfold hasB anyN
              unfold hasB at hhas
              rw [hhas, h]
              rfl
            · have e9 : ckE T pn P = 2 := ck_two (fun g => by rw [allP_no (by unfold dupB hasB; rw [anyN_at (p := fun j => decide ((P j).id = (P k).id)) h hjk]; rfl) hlt] at g; exact absurd g.2.2 (by decide))
              repeat (first | go_values | go_skip | go_guarded | go_step | go_upon | go_back | dsimp only)
              go_ret
              exact ⟨by rw [e9]; rfl, bl_trans hBj hb⟩
        · have hjn : j = k := by omega
          subst hjn
          repeat (first | go_values | go_skip | go_guarded | go_step | go_upon | go_back | dsimp only)
          refine ⟨⟨j + 1, by omega, by go_num, hBj, kSj, ?_⟩, by simp [intOf]; omega⟩
          unfold allP dupB
          rw [hall, hhas, e8]
          rfl
    · have hkn : k = pn := by omega
      subst hkn
      have e9 : ckE T k P = 0 := if_pos ⟨by simp [frB, h0, h1, h2], ⟨h3, h4⟩, hall⟩
      repeat (first | go_values | go_skip | go_guarded | go_step | go_upon | go_back | dsimp only)
      go_ret
      exact ⟨by rw [e9]; rfl, hB⟩
set_option maxRecDepth 100000 in
set_option maxHeartbeats 4000000 in
theorem rCheck_w (T : TD) (pb po pn pc_ : Nat) (ps : Option Addr) (P : Nat → PD) (w : World) (hps : pn = 0 ∨ ps = some ⟨pb, po, none⟩) (hpc : pn ≤ pc_) (hpm : pc_ ≤ maxLen) (hp : Pts w pb po pn P) (op : ∀ i, i < pn → pok (P i)) (oT : okK .f64 T.tx ∧ okK .f64 T.ty) : Calls Try.prog 51 #[.agg #[.int .i64 T.ta, .int .i64 T.tp, .int .i64 T.tb, .int .i64 T.tq, .bool T.ts, .float .f64 T.tx, .float .f64 T.ty, .slice ps pn pc_]] w fun e w' => e = .returned (.int .i64 (ckE T pn P)) ∧ Bel w w' := by
  have hpm9 := hpm
  unfold maxLen at hpm
  have okT : okK .f64 4611686018427387904 := by rw [okK64]; decide
  have okF : okK .f64 4796333603149578240 := by rw [okK64]; decide
  have okM : okK .f64 4787326403894837248 := by rw [okK64]; decide
  have c1 := cmp_ge .f64
  have c2 := cmp_le .f64
  have hA : (w.alloc (.cells #[.int .i64 T.ta, .int .i64 T.tp, .int .i64 T.tb, .int .i64 T.tq, .bool T.ts, .float .f64 T.tx, .float .f64 T.ty, .slice ps pn pc_] 29)).rangeAt w.heap.size 0 [.int .i64 T.ta, .int .i64 T.tp, .int .i64 T.tb, .int .i64 T.tq, .bool T.ts, .float .f64 T.tx, .float .f64 T.ty, .slice ps pn pc_] := rng_new w [.int .i64 T.ta, .int .i64 T.tp, .int .i64 T.tb, .int .i64 T.tq, .bool T.ts, .float .f64 T.tx, .float .f64 T.ty, .slice ps pn pc_] 29
  have BB : Bel w (w.alloc (.cells #[.int .i64 T.ta, .int .i64 T.tp, .int .i64 T.tb, .int .i64 T.tq, .bool T.ts, .float .f64 T.tx, .float .f64 T.ty, .slice ps pn pc_] 29)) := bl_alloc (bl_refl w) _ _
  have hPr : (w.alloc (.cells #[.int .i64 T.ta, .int .i64 T.tp, .int .i64 T.tb, .int .i64 T.tq, .bool T.ts, .float .f64 T.tx, .float .f64 T.ty, .slice ps pn pc_] 29)).rangeAt w.heap.size 0 [.int .i64 T.ta, .int .i64 T.tp, .int .i64 T.tb, .int .i64 T.tq] := rng_mid 0 4 hA
  have hN : (w.alloc (.cells #[.int .i64 T.ta, .int .i64 T.tp, .int .i64 T.tb, .int .i64 T.tq, .bool T.ts, .float .f64 T.tx, .float .f64 T.ty, .slice ps pn pc_] 29)).rangeAt w.heap.size 5 [.float .f64 T.tx, .float .f64 T.ty] := by have h := rng_mid 5 2 hA; rwa [Nat.zero_add] at h
  have kS : (w.alloc (.cells #[.int .i64 T.ta, .int .i64 T.tp, .int .i64 T.tb, .int .i64 T.tq, .bool T.ts, .float .f64 T.tx, .float .f64 T.ty, .slice ps pn pc_] 29)).cell? ⟨w.heap.size, 7, none⟩ = some (.slice ps pn pc_) := hA 7 _ rfl
  clear hA
  cases h0 : prB T
  · have e9 : ckE T pn P = 2 := ck_two (fun h => by have h9 := h.1; simp [frB, h0] at h9)
    go_enter Try.func51, Try.ntmps51
    repeat (first | ((with_reducible show Oper.wp _ { dst := _, op := Op.load 23 _, type := _, pos := _, after := _, guard := _ } _ _ _ _); refine wp_load_mid (P := Try.prog) 23 _ rfl _ _ rfl [.int .i64 T.ta, .int .i64 T.tp, .int .i64 T.tb, .int .i64 T.tq] _ hPr Try.underlying23 rfl (by kernel_rfl) ?_; simp only [go_sem]) | (go_at_call 94; (with_reducible refine (rPair_w T _).mono ?_); rintro e w1 ⟨rfl, hb1⟩; rw [h0]; replace hN := rng_bel hN hb1; replace kS := keep hb1 kS; replace BB := bl_trans BB hb1) | ((with_reducible show Oper.wp _ { dst := _, op := Op.load 26 _, type := _, pos := _, after := _, guard := _ } _ _ _ _); refine wp_load_mid (P := Try.prog) 26 _ rfl _ _ rfl [.float .f64 T.tx, .float .f64 T.ty] _ hN Try.underlying26 rfl (by kernel_rfl) ?_; simp only [go_sem]) | (go_at_call 95; (with_reducible refine (rUnit_w T.tx T.ty _).mono ?_); rintro e w2 ⟨rfl, hb2⟩; replace hN := rng_bel hN hb2; replace kS := keep hb2 kS; replace BB := bl_trans BB hb2) | (go_at_call 96; (with_reducible refine (rWithin_any T.tx T.ty 4611686018427387904 oT.1 oT.2 okT _).mono ?_); rintro e w3 ⟨rfl, hb3⟩; replace hN := rng_bel hN hb3; replace kS := keep hb3 kS; replace BB := bl_trans BB hb3) | go_values | go_skip | go_guarded | go_step | go_upon | go_back | dsimp only)
    go_ret
    exact ⟨by rw [e9]; rfl, BB⟩
  cases h2 : unB T.tx T.ty
  · have e9 : ckE T pn P = 2 := ck_two (fun h => by have h9 := h.1; simp [frB, h0, h2] at h9)
    go_enter Try.func51, Try.ntmps51
    repeat (first | ((with_reducible show Oper.wp _ { dst := _, op := Op.load 23 _, type := _, pos := _, after := _, guard := _ } _ _ _ _); refine wp_load_mid (P := Try.prog) 23 _ rfl _ _ rfl [.int .i64 T.ta, .int .i64 T.tp, .int .i64 T.tb, .int .i64 T.tq] _ hPr Try.underlying23 rfl (by kernel_rfl) ?_; simp only [go_sem]) | (go_at_call 94; (with_reducible refine (rPair_w T _).mono ?_); rintro e w1 ⟨rfl, hb1⟩; rw [h0]; replace hN := rng_bel hN hb1; replace kS := keep hb1 kS; replace BB := bl_trans BB hb1) | ((with_reducible show Oper.wp _ { dst := _, op := Op.load 26 _, type := _, pos := _, after := _, guard := _ } _ _ _ _); refine wp_load_mid (P := Try.prog) 26 _ rfl _ _ rfl [.float .f64 T.tx, .float .f64 T.ty] _ hN Try.underlying26 rfl (by kernel_rfl) ?_; simp only [go_sem]) | (go_at_call 95; (with_reducible refine (rUnit_w T.tx T.ty _).mono ?_); rintro e w2 ⟨rfl, hb2⟩; rw [h2]; replace hN := rng_bel hN hb2; replace kS := keep hb2 kS; replace BB := bl_trans BB hb2) | (go_at_call 96; (with_reducible refine (rWithin_any T.tx T.ty 4611686018427387904 oT.1 oT.2 okT _).mono ?_); rintro e w3 ⟨rfl, hb3⟩; replace hN := rng_bel hN hb3; replace kS := keep hb3 kS; replace BB := bl_trans BB hb3) | go_values | go_skip | go_guarded | go_step | go_upon | go_back | dsimp only)
    go_ret
    exact ⟨by rw [e9]; rfl, BB⟩
  cases h1 : (withinK .f64 T.tx 4611686018427387904 && withinK .f64 T.ty 4611686018427387904)
  · have e9 : ckE T pn P = 2 := ck_two (fun h => by have h9 := h.1; simp [frB, h0, h2, h1] at h9)
    go_enter Try.func51, Try.ntmps51
    repeat (first | ((with_reducible show Oper.wp _ { dst := _, op := Op.load 23 _, type := _, pos := _, after := _, guard := _ } _ _ _ _); refine wp_load_mid (P := Try.prog) 23 _ rfl _ _ rfl [.int .i64 T.ta, .int .i64 T.tp, .int .i64 T.tb, .int .i64 T.tq] _ hPr Try.underlying23 rfl (by kernel_rfl) ?_; simp only [go_sem]) | (go_at_call 94; (with_reducible refine (rPair_w T _).mono ?_); rintro e w1 ⟨rfl, hb1⟩; rw [h0]; replace hN := rng_bel hN hb1; replace kS := keep hb1 kS; replace BB := bl_trans BB hb1) | ((with_reducible show Oper.wp _ { dst := _, op := Op.load 26 _, type := _, pos := _, after := _, guard := _ } _ _ _ _); refine wp_load_mid (P := Try.prog) 26 _ rfl _ _ rfl [.float .f64 T.tx, .float .f64 T.ty] _ hN Try.underlying26 rfl (by kernel_rfl) ?_; simp only [go_sem]) | (go_at_call 95; (with_reducible refine (rUnit_w T.tx T.ty _).mono ?_); rintro e w2 ⟨rfl, hb2⟩; rw [h2]; replace hN := rng_bel hN hb2; replace kS := keep hb2 kS; replace BB := bl_trans BB hb2) | (go_at_call 96; (with_reducible refine (rWithin_any T.tx T.ty 4611686018427387904 oT.1 oT.2 okT _).mono ?_); rintro e w3 ⟨rfl, hb3⟩; rw [h1]; replace hN := rng_bel hN hb3; replace kS := keep hb3 kS; replace BB := bl_trans BB hb3) | go_values | go_skip | go_guarded | go_step | go_upon | go_back | dsimp only)
    go_ret
    exact ⟨by rw [e9]; rfl, BB⟩
  by_cases h3 : 1 ≤ pn
  rotate_left
  · have nI : (pn : Int) < 1 := by omega
    have e9 : ckE T pn P = 2 := ck_two (fun h => by have h9 := h.2.1; omega)
    go_enter Try.func51, Try.ntmps51
    repeat (first | ((with_reducible show Oper.wp _ { dst := _, op := Op.load 23 _, type := _, pos := _, after := _, guard := _ } _ _ _ _); refine wp_load_mid (P := Try.prog) 23 _ rfl _ _ rfl [.int .i64 T.ta, .int .i64 T.tp, .int .i64 T.tb, .int .i64 T.tq] _ hPr Try.underlying23 rfl (by kernel_rfl) ?_; simp only [go_sem]) | (go_at_call 94; (with_reducible refine (rPair_w T _).mono ?_); rintro e w1 ⟨rfl, hb1⟩; rw [h0]; replace hN := rng_bel hN hb1; replace kS := keep hb1 kS; replace BB := bl_trans BB hb1) | ((with_reducible show Oper.wp _ { dst := _, op := Op.load 26 _, type := _, pos := _, after := _, guard := _ } _ _ _ _); refine wp_load_mid (P := Try.prog) 26 _ rfl _ _ rfl [.float .f64 T.tx, .float .f64 T.ty] _ hN Try.underlying26 rfl (by kernel_rfl) ?_; simp only [go_sem]) | (go_at_call 95; (with_reducible refine (rUnit_w T.tx T.ty _).mono ?_); rintro e w2 ⟨rfl, hb2⟩; rw [h2]; replace hN := rng_bel hN hb2; replace kS := keep hb2 kS; replace BB := bl_trans BB hb2) | (go_at_call 96; (with_reducible refine (rWithin_any T.tx T.ty 4611686018427387904 oT.1 oT.2 okT _).mono ?_); rintro e w3 ⟨rfl, hb3⟩; rw [h1]; replace hN := rng_bel hN hb3; replace kS := keep hb3 kS; replace BB := bl_trans BB hb3) | go_values | go_skip | go_guarded | go_step | go_upon | go_back | dsimp only)
    go_ret
    exact ⟨by rw [e9]; rfl, BB⟩
  by_cases h4 : pn ≤ 8
  rotate_left
  · have nI : ¬ (pn : Int) < 1 := by omega
    have nJ : (8 : Int) < (pn : Int) := by omega
    have e9 : ckE T pn P = 2 := ck_two (fun h => by have h9 := h.2.1; omega)
    go_enter Try.func51, Try.ntmps51
    repeat (first | ((with_reducible show Oper.wp _ { dst := _, op := Op.load 23 _, type := _, pos := _, after := _, guard := _ } _ _ _ _); refine wp_load_mid (P := Try.prog) 23 _ rfl _ _ rfl [.int .i64 T.ta, .int .i64 T.tp, .int .i64 T.tb, .int .i64 T.tq] _ hPr Try.underlying23 rfl (by kernel_rfl) ?_; simp only [go_sem]) | (go_at_call 94; (with_reducible refine (rPair_w T _).mono ?_); rintro e w1 ⟨rfl, hb1⟩; rw [h0]; replace hN := rng_bel hN hb1; replace kS := keep hb1 kS; replace BB := bl_trans BB hb1) | ((with_reducible show Oper.wp _ { dst := _, op := Op.load 26 _, type := _, pos := _, after := _, guard := _ } _ _ _ _); refine wp_load_mid (P := Try.prog) 26 _ rfl _ _ rfl [.float .f64 T.tx, .float .f64 T.ty] _ hN Try.underlying26 rfl (by kernel_rfl) ?_; simp only [go_sem]) | (go_at_call 95; (with_reducible refine (rUnit_w T.tx T.ty _).mono ?_); rintro e w2 ⟨rfl, hb2⟩; rw [h2]; replace hN := rng_bel hN hb2; replace kS := keep hb2 kS; replace BB := bl_trans BB hb2) | (go_at_call 96; (with_reducible refine (rWithin_any T.tx T.ty 4611686018427387904 oT.1 oT.2 okT _).mono ?_); rintro e w3 ⟨rfl, hb3⟩; rw [h1]; replace hN := rng_bel hN hb3; replace kS := keep hb3 kS; replace BB := bl_trans BB hb3) | go_values | go_skip | go_guarded | go_step | go_upon | go_back | dsimp only)
    go_ret
    exact ⟨by rw [e9]; rfl, BB⟩
  exact rck_ok T pb po pn pc_ ps P w hps hpc hpm9 hp op oT h0 h1 h2 h3 h4

end Go.Proofs.Ytfohggiehbplkaa
