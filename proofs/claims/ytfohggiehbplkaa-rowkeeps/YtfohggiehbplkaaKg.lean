/-
  What each function of package poly answers, and what the reference of its chapter answers: one contract a function, for every float: the answer stands in the relation of its formula to what was given; of the memory that was there nothing has turned.
-/
import Derived.Test.YtfohggiehbplkaaVec
import Derived.Test.YtfohggiehbplkaaKf
import Derived.Below
import Derived.WalkKit
import Derived.WalkLawsBesides
import Derived.WalkSpells
import Derived.ProofKit
import Derived.OpenShut
import Derived.Deep.RegionHeld3
namespace Go.Proofs.Ytfohggiehbplkaa
open Go.ChangeShapes Go.WideShapes Go.ChangeAt Go.RowKit
set_option linter.unusedVariables false
set_option linter.unusedSimpArgs false


theorem real_w (x : Nat) (w : World) : Calls Try.prog 53 #[.float .f64 x] w fun e w' => e = .returned (.float .f64 (kpF x)) ∧ w' = w := by
  have c1 := cmp_ge .f64
  have c2 := cmp_le .f64
  have e : wkP x = (leK .f64 14010698440749613056 x && leK .f64 x 4787326403894837248) := by unfold wkP withinK; rw [show Op.negFloat .f64 4787326403894837248 = 14010698440749613056 by decide +kernel]
  unfold kpF
  rw [e]
  cases h1 : leK .f64 14010698440749613056 x
  · go_enter Try.func53, Try.ntmps53
    repeat (first | go_values | go_skip | go_guarded | go_step | go_upon | go_back | dsimp only)
    go_ret
    exact ⟨rfl, rfl⟩
  · cases h2 : leK .f64 x 4787326403894837248
    all_goals
      go_enter Try.func53, Try.ntmps53
      repeat (first | go_values | go_skip | go_guarded | go_step | go_upon | go_back | dsimp only)
      go_ret
      exact ⟨rfl, rfl⟩
theorem run_app0q (w : World) (ty c : Nat) (a : Option Addr) : (Builtin.append_ #[27, 27] ty #[.slice none 0 0, .slice a 0 c]).run Try.prog w = .ok (.slice none 0 0) w := by
  obtain ⟨i0, hi, hz0, hz1, hz2⟩ := info_parts info_point
  cases a <;> simp [Builtin.append_, run_underlying Try.underlying27, sizeOf, typeInfo, hi, Builtin.lenOf, Builtin.firstCells, loadCells, loadCellsFrom, storeCells]
theorem own_slice {sz base : Nat} {w : World} {v : Value} {n : Nat} {R : List Value} (h : OwnR sz base w v n R) (hv : ∃ g cap, v = .slice (some ⟨g, 0, none⟩) n cap) : ∃ g cap, v = .slice (some ⟨g, 0, none⟩) n cap ∧ base ≤ g ∧ n ≤ cap ∧ cap ≤ maxLen ∧ Rw w g 0 R ∧ w.there g 0 (n * sz) := by
  obtain ⟨g, cap, rfl⟩ := hv
  obtain ⟨h1, h2, h3, h4, h5⟩ := own_there h
  exact ⟨g, cap, rfl, h1, h2, h3, h4, h5⟩
set_option maxRecDepth 100000 in
set_option maxHeartbeats 4000000 in
theorem twin_w (T : TD) (pb po pn pc_ : Nat) (ps : Option Addr) (P : Nat → PD) (w : World) (hps : pn = 0 ∨ ps = some ⟨pb, po, none⟩) (hpc : pn ≤ pc_) (hpm : pc_ ≤ maxLen) (hp : Pts w pb po pn P) (op : ∀ i, i < pn → pok (P i)) (hp1 : 0 < pn) (hp8 : pn ≤ 100000) : Calls Try.prog 52 #[.agg #[.int .i64 T.ta, .int .i64 T.tp, .int .i64 T.tb, .int .i64 T.tq, .bool T.ts, .float .f64 T.tx, .float .f64 T.ty, .slice ps pn pc_]] w fun e w' => ∃ g cap, pn ≤ cap ∧ cap ≤ maxLen ∧ w.heap.size + 2 ≤ g ∧ g < w'.heap.size ∧ Pts w' g 0 pn P ∧ w'.there g 0 (pn * 6) ∧ e = .returned (.agg #[.int .i64 T.ta, .int .i64 T.tp, .int .i64 T.tb, .int .i64 T.tq, .bool T.ts, .float .f64 T.tx, .float .f64 T.ty, (.slice (some ⟨g, 0, none⟩) pn cap)]) ∧ Bel w w' := by
  have hpm9 := hpm
  unfold maxLen at hpm
  have hz0 : ((w.alloc (.cells #[.int .i64 T.ta, .int .i64 T.tp, .int .i64 T.tb, .int .i64 T.tq, .bool T.ts, .float .f64 T.tx, .float .f64 T.ty, .slice ps pn pc_] 29)).alloc (.cells #[.int .i64 0, .int .i64 0, .int .i64 0, .int .i64 0, .bool false, .float .f64 0, .float .f64 0, .slice none 0 0] 29)).heap.size = w.heap.size + 1 + 1 := by simp only [World.size_alloc]
  have hT : ((w.alloc (.cells #[.int .i64 T.ta, .int .i64 T.tp, .int .i64 T.tb, .int .i64 T.tq, .bool T.ts, .float .f64 T.tx, .float .f64 T.ty, .slice ps pn pc_] 29)).alloc (.cells #[.int .i64 0, .int .i64 0, .int .i64 0, .int .i64 0, .bool false, .float .f64 0, .float .f64 0, .slice none 0 0] 29)).rangeAt (w.heap.size) 0 [.int .i64 T.ta, .int .i64 T.tp, .int .i64 T.tb, .int .i64 T.tq, .bool T.ts, .float .f64 T.tx, .float .f64 T.ty, .slice ps pn pc_] := World.rangeAt_alloc (rng_new w [.int .i64 T.ta, .int .i64 T.tp, .int .i64 T.tb, .int .i64 T.tq, .bool T.ts, .float .f64 T.tx, .float .f64 T.ty, .slice ps pn pc_] 29) _
  have hTt : ((w.alloc (.cells #[.int .i64 T.ta, .int .i64 T.tp, .int .i64 T.tb, .int .i64 T.tq, .bool T.ts, .float .f64 T.tx, .float .f64 T.ty, .slice ps pn pc_] 29)).alloc (.cells #[.int .i64 0, .int .i64 0, .int .i64 0, .int .i64 0, .bool false, .float .f64 0, .float .f64 0, .slice none 0 0] 29)).there (w.heap.size) 0 8 := World.there_alloc (there_new w [.int .i64 T.ta, .int .i64 T.tp, .int .i64 T.tb, .int .i64 T.tq, .bool T.ts, .float .f64 T.tx, .float .f64 T.ty, .slice ps pn pc_] 29) _
  have hU : ((w.alloc (.cells #[.int .i64 T.ta, .int .i64 T.tp, .int .i64 T.tb, .int .i64 T.tq, .bool T.ts, .float .f64 T.tx, .float .f64 T.ty, .slice ps pn pc_] 29)).alloc (.cells #[.int .i64 0, .int .i64 0, .int .i64 0, .int .i64 0, .bool false, .float .f64 0, .float .f64 0, .slice none 0 0] 29)).there (w.heap.size + 1) 0 8 := by have h := there_new (w.alloc (.cells #[.int .i64 T.ta, .int .i64 T.tp, .int .i64 T.tb, .int .i64 T.tq, .bool T.ts, .float .f64 T.tx, .float .f64 T.ty, .slice ps pn pc_] 29)) [.int .i64 0, .int .i64 0, .int .i64 0, .int .i64 0, .bool false, .float .f64 0, .float .f64 0, .slice none 0 0] 29; rwa [World.size_alloc] at h
  have BB : Bel w ((w.alloc (.cells #[.int .i64 T.ta, .int .i64 T.tp, .int .i64 T.tb, .int .i64 T.tq, .bool T.ts, .float .f64 T.tx, .float .f64 T.ty, .slice ps pn pc_] 29)).alloc (.cells #[.int .i64 0, .int .i64 0, .int .i64 0, .int .i64 0, .bool false, .float .f64 0, .float .f64 0, .slice none 0 0] 29)) := bl_alloc (bl_alloc (bl_refl w) _ _) _ _
  have e9 : ps = some ⟨pb, po, none⟩ := by rcases hps with h | h; omega; exact h
  have kS : ((w.alloc (.cells #[.int .i64 T.ta, .int .i64 T.tp, .int .i64 T.tb, .int .i64 T.tq, .bool T.ts, .float .f64 T.tx, .float .f64 T.ty, .slice ps pn pc_] 29)).alloc (.cells #[.int .i64 0, .int .i64 0, .int .i64 0, .int .i64 0, .bool false, .float .f64 0, .float .f64 0, .slice none 0 0] 29)).cell? ⟨w.heap.size, 7, none⟩ = some (.slice ps pn pc_) := by have h := hT 7 _ rfl; rwa [Nat.zero_add] at h
  obtain ⟨v1, w1, hr1, a2, a3, a4⟩ := run_appR (P := Try.prog) 27 27 39 Try.underlying27 info_point rfl pb po pn pc_ (OwnR.nil 6 ((w.alloc (.cells #[.int .i64 T.ta, .int .i64 T.tp, .int .i64 T.tb, .int .i64 T.tq, .bool T.ts, .float .f64 T.tx, .float .f64 T.ty, .slice ps pn pc_] 29)).alloc (.cells #[.int .i64 0, .int .i64 0, .int .i64 0, .int .i64 0, .bool false, .float .f64 0, .float .f64 0, .slice none 0 0] 29)).heap.size ((w.alloc (.cells #[.int .i64 T.ta, .int .i64 T.tp, .int .i64 T.tb, .int .i64 T.tq, .bool T.ts, .float .f64 T.tx, .float .f64 T.ty, .slice ps pn pc_] 29)).alloc (.cells #[.int .i64 0, .int .i64 0, .int .i64 0, .int .i64 0, .bool false, .float .f64 0, .float .f64 0, .slice none 0 0] 29))) (ptsL_len P pn) (ptsL_rw (hp.bel BB)) (ptsL_one P pn) hp1 (Nat.le_refl _) (by unfold maxLen; omega) (by omega)
  rw [← e9] at hr1
  have B1 := a4 _ (bl_refl _) (Nat.le_refl _)
  simp only [Nat.zero_add, List.nil_append] at a2 a3
  obtain ⟨g, cap, rfl, g1, g2, g3, g4, g5⟩ := own_slice a2 a3
  have hP1 : Pts w1 g 0 pn P := ptsL_at (N := []) (by rwa [List.append_nil])
  replace hT := rng_bel hT B1
  have fS := (bel_there hTt B1 7 (by decide)).2
  rw [Nat.zero_add] at fS
  have kS1 := keep B1 kS
  have hT4 : (w1.setCell ⟨w.heap.size, 7, none⟩ (.slice (some ⟨g, 0, none⟩) pn cap)).rangeAt (w.heap.size) 0 [.int .i64 T.ta, .int .i64 T.tp, .int .i64 T.tb, .int .i64 T.tq, .bool T.ts, .float .f64 T.tx, .float .f64 T.ty, (.slice (some ⟨g, 0, none⟩) pn cap)] := rng_upd (k := 7) (v := (.slice (some ⟨g, 0, none⟩) pn cap)) hT (by simp)
  have hU4 : (w1.setCell ⟨w.heap.size, 7, none⟩ (.slice (some ⟨g, 0, none⟩) pn cap)).there (w.heap.size + 1) 0 8 := there_set (bel_there hU B1)
  have hg4 : (w1.setCell ⟨w.heap.size, 7, none⟩ (.slice (some ⟨g, 0, none⟩) pn cap)).there g 0 (pn * 6) := there_set g5
  have hP4 : Pts (w1.setCell ⟨w.heap.size, 7, none⟩ (.slice (some ⟨g, 0, none⟩) pn cap)) g 0 pn P := fun i hi => rng_set_far (hP1 i hi) (by simp; omega)
  have hB4 : Bel w (w1.setCell ⟨w.heap.size, 7, none⟩ (.slice (some ⟨g, 0, none⟩) pn cap)) := bl_set (bl_trans BB B1) (Nat.le_refl _)
  clear e9 a2 a3 a4 g4 g5 hP1 hTt hU
  go_enter Try.func52, Try.ntmps52
  repeat (first | (at_builtin; refine wpList_runX 27 rfl (.tmp 4) (.tmp 6) rfl rfl rfl hr1 ?_) | ((with_reducible show Oper.wp _ { dst := some 10, op := Op.load 29 _, type := _, pos := _, after := _, guard := _ } _ _ _ _); refine wp_load_mid (P := Try.prog) 29 _ rfl _ _ rfl [.int .i64 T.ta, .int .i64 T.tp, .int .i64 T.tb, .int .i64 T.tq, .bool T.ts, .float .f64 T.tx, .float .f64 T.ty, (.slice (some ⟨g, 0, none⟩) pn cap)] _ hT4 Try.underlying29 rfl (by kernel_rfl) ?_; (try simp only [go_sem])) | ((with_reducible show Oper.wp _ { dst := _, op := Op.store 29 _ _, type := _, pos := _, after := _, guard := _ } _ _ _ _); refine wp_store_mid (P := Try.prog) 29 _ _ rfl (w.heap.size + 1) (0) #[.int .i64 T.ta, .int .i64 T.tp, .int .i64 T.tb, .int .i64 T.tq, .bool T.ts, .float .f64 T.tx, .float .f64 T.ty, (.slice (some ⟨g, 0, none⟩) pn cap)] rfl rfl hU4 (by kernel_rfl) (by kernel_rfl) ?_; (try simp only [go_sem])) | go_values | go_skip | go_guarded | go_step | go_upon | go_back | dsimp only)
  refine bodyPost_ret (results_c (c := 2) (ty := 29) rfl rfl (run_loadVar_mid _ (w.heap.size + 1) 0 29 [.int .i64 T.ta, .int .i64 T.tp, .int .i64 T.tb, .int .i64 T.tq, .bool T.ts, .float .f64 T.tx, .float .f64 T.ty, (.slice (some ⟨g, 0, none⟩) pn cap)] _ (World.rangeAt_setCells_same _ _ _ _ hU4) Try.underlying29 rfl (by kernel_rfl))) rfl ?_
  refine ⟨g, cap, g2, g3, by omega, ?_, fun i hi => World.rangeAt_setCells_apart (hP4 i hi) _ _ _ (.inl (by omega)), World.there_setCells hg4 _ _ _, rfl, bel_setsJ _ _ hB4 (by omega)⟩
  rw [size_setsJ]
  exact hP4.lt hp1

end Go.Proofs.Ytfohggiehbplkaa
