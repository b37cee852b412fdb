/-
  What each function of package poly answers, and what the reference of its chapter answers: one contract a function, for every float: the answer stands in the relation of its formula to what was given; of the memory that was there nothing has turned.
-/
import Derived.Test.YtfohggiehbplkaaVec
import Derived.Test.YtfohggiehbplkaaWe
import Derived.Below
import Derived.WalkKit
import Derived.WalkLawsBesides
import Derived.WalkSpells
import Derived.ProofKit
import Derived.OpenShut
import Derived.Deep.RegionHeld3
namespace Go.Proofs.Ytfohggiehbplkaa
open Go.ChangeShapes Go.WideShapes Go.ChangeAt Go.RowKit
set_option linter.unusedVariables false
set_option linter.unusedSimpArgs false


theorem results_cct {P : Program} {fn : Func} {tmps : Array Value} {w : World} {c d r : Nat} {ty ty2 : TypeId} {a a2 : Addr} {v v2 u : Value} (hres : fn.results = #[.cell c ty, .cell d ty2, .tmp r]) (hc : tmps.getD c undef = .pointer (some a)) (hl : (loadVar ty a).run P w = .ok v w) (hd : tmps.getD d undef = .pointer (some a2)) (hl2 : (loadVar ty2 a2).run P w = .ok v2 w) (hr : tmps.getD r undef = u) : (results fn tmps).run P w = .ok (.tuple #[v, v2, u]) w := by
  unfold results
  rw [hres]
  have e : (#[ResultVar.cell c ty, ResultVar.cell d ty2, ResultVar.tmp r]) = [ResultVar.cell c ty, ResultVar.cell d ty2, ResultVar.tmp r].toArray := rfl
  rw [e]
  simp only [List.mapM_toArray, List.mapM_cons, List.mapM_nil, Sem.run_bind, Sem.run_map, Sem.run_pure, Result.andThen_ok, hc, hr, asAddr, hl, hd, hl2]
  rfl
theorem results_ccct {P : Program} {fn : Func} {tmps : Array Value} {w : World} {c d g r : Nat} {ty ty2 ty3 : TypeId} {a a2 a3 : Addr} {v v2 v3 u : Value} (hres : fn.results = #[.cell c ty, .cell d ty2, .cell g ty3, .tmp r]) (hc : tmps.getD c undef = .pointer (some a)) (hl : (loadVar ty a).run P w = .ok v w) (hd : tmps.getD d undef = .pointer (some a2)) (hl2 : (loadVar ty2 a2).run P w = .ok v2 w) (hg : tmps.getD g undef = .pointer (some a3)) (hl3 : (loadVar ty3 a3).run P w = .ok v3 w) (hr : tmps.getD r undef = u) : (results fn tmps).run P w = .ok (.tuple #[v, v2, v3, u]) w := by
  unfold results
  rw [hres]
  have e : (#[ResultVar.cell c ty, ResultVar.cell d ty2, ResultVar.cell g ty3, ResultVar.tmp r]) = [ResultVar.cell c ty, ResultVar.cell d ty2, ResultVar.cell g ty3, ResultVar.tmp r].toArray := rfl
  rw [e]
  simp only [List.mapM_toArray, List.mapM_cons, List.mapM_nil, Sem.run_bind, Sem.run_map, Sem.run_pure, Result.andThen_ok, hc, hr, asAddr, hl, hd, hl2, hg, hl3]
  rfl

set_option maxRecDepth 100000 in
set_option maxHeartbeats 4000000 in
theorem wrm_no (R : RD) (a b : SD) (w : World) (hal : alB R a b = false) : Calls Try.prog 117 #[.agg #[.int .i64 R.ra, .int .i64 R.rb, .float .f64 R.r2, .float .f64 R.r3, .float .f64 R.r4, .float .f64 R.r5, .float .f64 R.r6, .float .f64 R.r7, .float .f64 R.r8, .float .f64 R.r9, .float .f64 R.r10, .float .f64 R.r11, .int .i64 R.ro, .float .f64 R.r13], .agg #[.float .f64 a.sm, .float .f64 a.si, .float .f64 a.sx, .float .f64 a.sy, .float .f64 a.ss], .agg #[.float .f64 b.sm, .float .f64 b.si, .float .f64 b.sx, .float .f64 b.sy, .float .f64 b.ss]] w fun e w' => e = .returned (.tuple #[.agg #[.float .f64 0, .float .f64 0, .float .f64 0, .float .f64 0, .float .f64 0], .agg #[.float .f64 0, .float .f64 0, .float .f64 0, .float .f64 0, .float .f64 0], .int .i64 200]) ∧ Bel w w' := by
  obtain ⟨hR, hRt, hA, hAt, hBb, hBbt, hX3, hX3t, hX4, hX4t, B0, hz0⟩ := frm2 R a b w
  go_enter Try.func117, Try.ntmps117
  repeat (first | (with_reducible show Oper.wp _ _ _ _ _ _; refine wp_load_mid (P := Try.prog) 43 _ rfl (w.heap.size) 0 rfl [.int .i64 R.ra, .int .i64 R.rb, .float .f64 R.r2, .float .f64 R.r3, .float .f64 R.r4, .float .f64 R.r5, .float .f64 R.r6, .float .f64 R.r7, .float .f64 R.r8, .float .f64 R.r9, .float .f64 R.r10, .float .f64 R.r11, .int .i64 R.ro, .float .f64 R.r13] _ (by with_reducible assumption) Try.underlying43 rfl (by kernel_rfl) ?_; simp only [go_sem]) | (with_reducible show Oper.wp _ _ _ _ _ _; refine wp_load_mid (P := Try.prog) 45 _ rfl (w.heap.size + 1) 0 rfl [.float .f64 a.sm, .float .f64 a.si, .float .f64 a.sx, .float .f64 a.sy, .float .f64 a.ss] _ (by with_reducible assumption) Try.underlying45 rfl (by kernel_rfl) ?_; simp only [go_sem]) | (with_reducible show Oper.wp _ _ _ _ _ _; refine wp_load_mid (P := Try.prog) 45 _ rfl (w.heap.size + 1 + 1) 0 rfl [.float .f64 b.sm, .float .f64 b.si, .float .f64 b.sx, .float .f64 b.sy, .float .f64 b.ss] _ (by with_reducible assumption) Try.underlying45 rfl (by kernel_rfl) ?_; simp only [go_sem]) | ((with_reducible show Oper.wp _ { dst := _, op := Op.build 45 _, type := _, pos := _, after := _, guard := _ } _ _ _ _); refine wp_build 45 _ rfl (.agg #[.float .f64 0, .float .f64 0, .float .f64 0, .float .f64 0, .float .f64 0]) (by kernel_rfl) ?_; simp only [go_sem]) | (go_at_call 58; (with_reducible refine (checked_w R a b _).mono ?_); rintro e w' ⟨rfl, hb⟩; rw [hal]; simp only [cond_true, cond_false]; have hN := there_new w' [.float .f64 0, .float .f64 0, .float .f64 0, .float .f64 0, .float .f64 0, .float .f64 0, .float .f64 0, .float .f64 0, .float .f64 0, .float .f64 0] 98; have B5 : Bel w' ((w'.alloc (.cells #[.float .f64 0, .float .f64 0, .float .f64 0, .float .f64 0, .float .f64 0, .float .f64 0, .float .f64 0, .float .f64 0, .float .f64 0, .float .f64 0] 98)).setCells w'.heap.size 0 [.float .f64 0, .float .f64 0, .float .f64 0, .float .f64 0, .float .f64 0, .float .f64 0, .float .f64 0, .float .f64 0, .float .f64 0, .float .f64 0]) := bel_setsJ _ _ (bl_alloc (bl_refl w') _ _) (Nat.le_refl _); have hL5 := World.rangeAt_setCells_same (w'.alloc (.cells #[.float .f64 0, .float .f64 0, .float .f64 0, .float .f64 0, .float .f64 0, .float .f64 0, .float .f64 0, .float .f64 0, .float .f64 0, .float .f64 0] 98)) w'.heap.size 0 [.float .f64 0, .float .f64 0, .float .f64 0, .float .f64 0, .float .f64 0, .float .f64 0, .float .f64 0, .float .f64 0, .float .f64 0, .float .f64 0] hN; have hz5 := hb.size) | ((with_reducible show Oper.wp _ { dst := _, op := Op.store 98 _ _, type := _, pos := _, after := _, guard := _ } _ _ _ _); refine wp_store_abs (P := Try.prog) 98 _ _ rfl (w'.heap.size) 0 #[.float .f64 0, .float .f64 0, .float .f64 0, .float .f64 0, .float .f64 0, .float .f64 0, .float .f64 0, .float .f64 0, .float .f64 0, .float .f64 0] rfl rfl hN (by kernel_rfl) (by kernel_rfl) (fun V => Bel w' V ∧ V.rangeAt w'.heap.size 0 [.float .f64 0, .float .f64 0, .float .f64 0, .float .f64 0, .float .f64 0, .float .f64 0, .float .f64 0, .float .f64 0, .float .f64 0, .float .f64 0] ∧ V.there w'.heap.size 0 10) ⟨B5, hL5, World.there_setCells hN _ _ _⟩ ?_; rintro V5 ⟨bV, hLV, hNV⟩; have hRV := rng_bel (rng_bel hR hb) bV; have BV := bl_trans (bl_trans B0 hb) bV; have hzV := bV.size; have sA := rng_bel (rng_bel hA hb) bV; have sB := rng_bel (rng_bel hBb hb) bV; clear hR hA hBb B5 hL5 hN B0; simp only [go_sem]) | ((with_reducible show Oper.wp _ { dst := _, op := Op.store 45 _ _, type := _, pos := _, after := _, guard := _ } _ _ _ _); refine wp_store_abs (P := Try.prog) 45 _ _ rfl (w.heap.size + 1 + 1 + 1) 0 #[.float .f64 0, .float .f64 0, .float .f64 0, .float .f64 0, .float .f64 0] rfl rfl (bel_there (bel_there hX3t hb) bV) (by kernel_rfl) (by kernel_rfl) (fun V => Bel w V ∧ V.rangeAt (w.heap.size + 1 + 1 + 1) 0 [.float .f64 0, .float .f64 0, .float .f64 0, .float .f64 0, .float .f64 0] ∧ V.there (w.heap.size + 1 + 1 + 1 + 1) 0 5) ⟨bel_setsJ _ _ BV (by omega), World.rangeAt_setCells_same _ _ _ _ (bel_there (bel_there hX3t hb) bV), World.there_setCells (bel_there (bel_there hX4t hb) bV) _ _ _⟩ ?_; rintro V6 ⟨B6, h63, h64⟩; simp only [go_sem]) | ((with_reducible show Oper.wp _ { dst := _, op := Op.store 45 _ _, type := _, pos := _, after := _, guard := _ } _ _ _ _); refine wp_store_abs (P := Try.prog) 45 _ _ rfl (w.heap.size + 1 + 1 + 1 + 1) 0 #[.float .f64 0, .float .f64 0, .float .f64 0, .float .f64 0, .float .f64 0] rfl rfl h64 (by kernel_rfl) (by kernel_rfl) (fun V => Bel w V ∧ V.rangeAt (w.heap.size + 1 + 1 + 1) 0 [.float .f64 0, .float .f64 0, .float .f64 0, .float .f64 0, .float .f64 0] ∧ V.rangeAt (w.heap.size + 1 + 1 + 1 + 1) 0 [.float .f64 0, .float .f64 0, .float .f64 0, .float .f64 0, .float .f64 0]) ⟨bel_setsJ _ _ B6 (by omega), World.rangeAt_setCells_apart h63 _ _ _ (.inl (by omega)), World.rangeAt_setCells_same _ _ _ _ h64⟩ ?_; rintro V7 ⟨B7, h73, h74⟩; simp only [go_sem]) | go_values | go_skip | go_guarded | go_step | go_upon | go_back | dsimp only)
  refine bodyPost_ret (results_cct (c := 6) (d := 7) (r := 8) (ty := 45) (ty2 := 45) rfl rfl (run_loadVar_mid _ (w.heap.size + 1 + 1 + 1) 0 45 [.float .f64 0, .float .f64 0, .float .f64 0, .float .f64 0, .float .f64 0] _ (h73) Try.underlying45 rfl (by kernel_rfl)) rfl (run_loadVar_mid _ (w.heap.size + 1 + 1 + 1 + 1) 0 45 [.float .f64 0, .float .f64 0, .float .f64 0, .float .f64 0, .float .f64 0] _ (h74) Try.underlying45 rfl (by kernel_rfl)) rfl) rfl ⟨rfl, B7⟩

theorem solved_n (R : RD) (a b : SD) (w : World) (oR : rok R) (oa : sok a) (ob : sok b) (hE : nanK .f64 R.r9 = false ∧ nanK .f64 R.r10 = false) (h1 : okB R a b = false) : Calls Try.prog 60 #[.agg #[.int .i64 R.ra, .int .i64 R.rb, .float .f64 R.r2, .float .f64 R.r3, .float .f64 R.r4, .float .f64 R.r5, .float .f64 R.r6, .float .f64 R.r7, .float .f64 R.r8, .float .f64 R.r9, .float .f64 R.r10, .float .f64 R.r11, .int .i64 R.ro, .float .f64 R.r13], .agg #[.float .f64 a.sm, .float .f64 a.si, .float .f64 a.sx, .float .f64 a.sy, .float .f64 a.ss, .float .f64 b.sm, .float .f64 b.si, .float .f64 b.sx, .float .f64 b.sy, .float .f64 b.ss]] w fun e w' => e = .returned (.tuple #[.float .f64 0, .bool false]) ∧ Bel w w' :=
  (solved_w R a b w oR oa ob hE).mono fun e w' h => by
    rcases h with ⟨_, h⟩ | ⟨g, _⟩
    · exact h
    · rw [h1] at g; cases g
theorem solved_y (R : RD) (a b : SD) (w : World) (oR : rok R) (oa : sok a) (ob : sok b) (hE : nanK .f64 R.r9 = false ∧ nanK .f64 R.r10 = false) (h1 : okB R a b = true) : Calls Try.prog 60 #[.agg #[.int .i64 R.ra, .int .i64 R.rb, .float .f64 R.r2, .float .f64 R.r3, .float .f64 R.r4, .float .f64 R.r5, .float .f64 R.r6, .float .f64 R.r7, .float .f64 R.r8, .float .f64 R.r9, .float .f64 R.r10, .float .f64 R.r11, .int .i64 R.ro, .float .f64 R.r13], .agg #[.float .f64 a.sm, .float .f64 a.si, .float .f64 a.sx, .float .f64 a.sy, .float .f64 a.ss, .float .f64 b.sm, .float .f64 b.si, .float .f64 b.sx, .float .f64 b.sy, .float .f64 b.ss]] w fun e w' => ∃ q, isF q (quF R a b) ∧ e = .returned (.tuple #[.float .f64 q, .bool (fiB R a b)]) ∧ Bel w w' :=
  (solved_w R a b w oR oa ob hE).mono fun e w' h => by
    rcases h with ⟨g, _⟩ | ⟨_, h⟩
    · rw [h1] at g; cases g
    · exact h
theorem rng_pre {W : World} {b : Nat} {l1 l2 : List Value} (h : W.rangeAt b 0 (l1 ++ l2)) : W.rangeAt b 0 l1 := fun j v hv => h j v (by rw [List.getElem?_append_left (by rw [List.getElem?_eq_some_iff] at hv; exact hv.1)]; exact hv)
theorem rng_suf {W : World} {b : Nat} {l1 l2 : List Value} (h : W.rangeAt b 0 (l1 ++ l2)) : W.rangeAt b l1.length l2 := fun j v hv => by
  have h1 := h (l1.length + j) v (by rw [List.getElem?_append_right (by omega)]; rw [Nat.add_sub_cancel_left]; exact hv)
  rwa [Nat.zero_add] at h1

set_option maxRecDepth 100000 in
set_option maxHeartbeats 4000000 in
theorem wrm_ok (R : RD) (a b : SD) (w : World) (oR : rok R) (oa : sok a) (ob : sok b) (hal : alB R a b = true) : Calls Try.prog 117 #[.agg #[.int .i64 R.ra, .int .i64 R.rb, .float .f64 R.r2, .float .f64 R.r3, .float .f64 R.r4, .float .f64 R.r5, .float .f64 R.r6, .float .f64 R.r7, .float .f64 R.r8, .float .f64 R.r9, .float .f64 R.r10, .float .f64 R.r11, .int .i64 R.ro, .float .f64 R.r13], .agg #[.float .f64 a.sm, .float .f64 a.si, .float .f64 a.sx, .float .f64 a.sy, .float .f64 a.ss], .agg #[.float .f64 b.sm, .float .f64 b.si, .float .f64 b.sx, .float .f64 b.sy, .float .f64 b.ss]] w fun e w' => ∃ x y u x2 y2 u2, isF x (puX a.sm a.sx R.r2 (bitsK R.r11)) ∧ isF y (puX a.sm a.sy R.r3 (bitsK R.r11)) ∧ isF u (puT a.si a.ss R.r6 (bitsK R.r11)) ∧ isF x2 (puX b.sm b.sx R.r4 (bitsK R.r11)) ∧ isF y2 (puX b.sm b.sy R.r5 (bitsK R.r11)) ∧ isF u2 (puT b.si b.ss R.r7 (bitsK R.r11)) ∧ e = .returned (.tuple #[.agg #[.float .f64 a.sm, .float .f64 a.si, .float .f64 x, .float .f64 y, .float .f64 u], .agg #[.float .f64 b.sm, .float .f64 b.si, .float .f64 x2, .float .f64 y2, .float .f64 u2], .int .i64 0]) ∧ Bel w w' := by
  obtain ⟨hR, hRt, hA, hAt, hBb, hBbt, hX3, hX3t, hX4, hX4t, B0, hz0⟩ := frm2 R a b w
  go_enter Try.func117, Try.ntmps117
  repeat (first | (with_reducible show Oper.wp _ _ _ _ _ _; refine wp_load_mid (P := Try.prog) 43 _ rfl (w.heap.size) 0 rfl [.int .i64 R.ra, .int .i64 R.rb, .float .f64 R.r2, .float .f64 R.r3, .float .f64 R.r4, .float .f64 R.r5, .float .f64 R.r6, .float .f64 R.r7, .float .f64 R.r8, .float .f64 R.r9, .float .f64 R.r10, .float .f64 R.r11, .int .i64 R.ro, .float .f64 R.r13] _ (by with_reducible assumption) Try.underlying43 rfl (by kernel_rfl) ?_; simp only [go_sem]) | (with_reducible show Oper.wp _ _ _ _ _ _; refine wp_load_mid (P := Try.prog) 45 _ rfl (w.heap.size + 1) 0 rfl [.float .f64 a.sm, .float .f64 a.si, .float .f64 a.sx, .float .f64 a.sy, .float .f64 a.ss] _ (by with_reducible assumption) Try.underlying45 rfl (by kernel_rfl) ?_; simp only [go_sem]) | (with_reducible show Oper.wp _ _ _ _ _ _; refine wp_load_mid (P := Try.prog) 45 _ rfl (w.heap.size + 1 + 1) 0 rfl [.float .f64 b.sm, .float .f64 b.si, .float .f64 b.sx, .float .f64 b.sy, .float .f64 b.ss] _ (by with_reducible assumption) Try.underlying45 rfl (by kernel_rfl) ?_; simp only [go_sem]) | (go_at_call 58; (with_reducible refine (checked_w R a b _).mono ?_); rintro e w' ⟨rfl, hb⟩; rw [hal]; simp only [cond_true, cond_false]; have hN := there_new w' [.float .f64 0, .float .f64 0, .float .f64 0, .float .f64 0, .float .f64 0, .float .f64 0, .float .f64 0, .float .f64 0, .float .f64 0, .float .f64 0] 98; have B5 : Bel w' ((w'.alloc (.cells #[.float .f64 0, .float .f64 0, .float .f64 0, .float .f64 0, .float .f64 0, .float .f64 0, .float .f64 0, .float .f64 0, .float .f64 0, .float .f64 0] 98)).setCells w'.heap.size 0 [.float .f64 a.sm, .float .f64 a.si, .float .f64 a.sx, .float .f64 a.sy, .float .f64 a.ss, .float .f64 b.sm, .float .f64 b.si, .float .f64 b.sx, .float .f64 b.sy, .float .f64 b.ss]) := bel_setsJ _ _ (bl_alloc (bl_refl w') _ _) (Nat.le_refl _); have hL5 := World.rangeAt_setCells_same (w'.alloc (.cells #[.float .f64 0, .float .f64 0, .float .f64 0, .float .f64 0, .float .f64 0, .float .f64 0, .float .f64 0, .float .f64 0, .float .f64 0, .float .f64 0] 98)) w'.heap.size 0 [.float .f64 a.sm, .float .f64 a.si, .float .f64 a.sx, .float .f64 a.sy, .float .f64 a.ss, .float .f64 b.sm, .float .f64 b.si, .float .f64 b.sx, .float .f64 b.sy, .float .f64 b.ss] hN; have hz5 := hb.size) | ((with_reducible show Oper.wp _ { dst := _, op := Op.store 98 _ _, type := _, pos := _, after := _, guard := _ } _ _ _ _); refine wp_store_abs (P := Try.prog) 98 _ _ rfl (w'.heap.size) 0 #[.float .f64 a.sm, .float .f64 a.si, .float .f64 a.sx, .float .f64 a.sy, .float .f64 a.ss, .float .f64 b.sm, .float .f64 b.si, .float .f64 b.sx, .float .f64 b.sy, .float .f64 b.ss] rfl rfl hN (by kernel_rfl) (by kernel_rfl) (fun V => Bel w' V ∧ V.rangeAt w'.heap.size 0 [.float .f64 a.sm, .float .f64 a.si, .float .f64 a.sx, .float .f64 a.sy, .float .f64 a.ss, .float .f64 b.sm, .float .f64 b.si, .float .f64 b.sx, .float .f64 b.sy, .float .f64 b.ss] ∧ V.there w'.heap.size 0 10) ⟨B5, hL5, World.there_setCells hN _ _ _⟩ ?_; rintro V5 ⟨bV, hLV, hNV⟩; have hRV := rng_bel (rng_bel hR hb) bV; have BV := bl_trans (bl_trans B0 hb) bV; have hzV := bV.size; have sA := rng_bel (rng_bel hA hb) bV; have sB := rng_bel (rng_bel hBb hb) bV; clear hR hA hBb B5 hL5 hN B0; (have k11 : V5.cell? ⟨w.heap.size, 11, none⟩ = some (.float .f64 R.r11) := by have h := hRV 11 _ rfl; rwa [Nat.zero_add] at h); simp only [go_sem]) | (with_reducible show Oper.wp _ _ _ _ _ _; refine wp_load_mid (P := Try.prog) 98 _ rfl (w'.heap.size) 0 rfl [.float .f64 a.sm, .float .f64 a.si, .float .f64 a.sx, .float .f64 a.sy, .float .f64 a.ss, .float .f64 b.sm, .float .f64 b.si, .float .f64 b.sx, .float .f64 b.sy, .float .f64 b.ss] _ (by with_reducible assumption) Try.underlying98 rfl (by kernel_rfl) ?_; simp only [go_sem]) | (go_at_call 61; refine (pushed_w R a b _ oR oa ob (isF_r oR.2.2.2.2.2.2.2.2.2.1)).mono ?_; rintro e w2 ⟨x, y, u, x2, y2, u2, hx, hy, hu, hx2, hy2, hu2, rfl, hb2⟩) | ((with_reducible show Oper.wp _ { dst := _, op := Op.store 98 _ _, type := _, pos := _, after := _, guard := _ } _ _ _ _); refine wp_store_abs (P := Try.prog) 98 _ _ rfl (w'.heap.size) 0 #[.float .f64 a.sm, .float .f64 a.si, .float .f64 x, .float .f64 y, .float .f64 u, .float .f64 b.sm, .float .f64 b.si, .float .f64 x2, .float .f64 y2, .float .f64 u2] rfl rfl (bel_there hNV hb2) (by kernel_rfl) (by kernel_rfl) (fun V => Bel w V ∧ V.rangeAt w'.heap.size 0 [.float .f64 a.sm, .float .f64 a.si, .float .f64 x, .float .f64 y, .float .f64 u, .float .f64 b.sm, .float .f64 b.si, .float .f64 x2, .float .f64 y2, .float .f64 u2] ∧ V.rangeAt (w.heap.size) 0 [.int .i64 R.ra, .int .i64 R.rb, .float .f64 R.r2, .float .f64 R.r3, .float .f64 R.r4, .float .f64 R.r5, .float .f64 R.r6, .float .f64 R.r7, .float .f64 R.r8, .float .f64 R.r9, .float .f64 R.r10, .float .f64 R.r11, .int .i64 R.ro, .float .f64 R.r13] ∧ V.there (w.heap.size) 0 14 ∧ V.there (w.heap.size + 1 + 1 + 1) 0 5 ∧ V.there (w.heap.size + 1 + 1 + 1 + 1) 0 5) ⟨bel_setsJ _ _ (bl_trans BV hb2) (by omega), World.rangeAt_setCells_same _ _ _ _ (bel_there hNV hb2), World.rangeAt_setCells_apart (rng_bel hRV hb2) _ _ _ (.inl (by omega)), World.there_setCells (bel_there (bel_there (bel_there hRt hb) bV) hb2) _ _ _, World.there_setCells (bel_there (bel_there (bel_there hX3t hb) bV) hb2) _ _ _, World.there_setCells (bel_there (bel_there (bel_there hX4t hb) bV) hb2) _ _ _⟩ ?_; rintro V7 ⟨B7, hL7, hR7, hR7t, hth4, hth5⟩; simp only [go_sem]) | go_values | go_skip | go_guarded | go_step | go_upon | go_back | dsimp only)
  have hSA := rng_pre (l1 := [.float .f64 a.sm, .float .f64 a.si, .float .f64 x, .float .f64 y, .float .f64 u]) (l2 := [.float .f64 b.sm, .float .f64 b.si, .float .f64 x2, .float .f64 y2, .float .f64 u2]) hL7
  have hSB := rng_suf (l1 := [.float .f64 a.sm, .float .f64 a.si, .float .f64 x, .float .f64 y, .float .f64 u]) (l2 := [.float .f64 b.sm, .float .f64 b.si, .float .f64 x2, .float .f64 y2, .float .f64 u2]) hL7
  have hB9 := B7
  refine wp_region_outs (w0 := w) 7 rfl (fun i v => match i with | 0 => v = .pointer (some ⟨w'.heap.size, 0, none⟩) | 1 => v = .agg #[.float .f64 a.sm, .float .f64 a.si, .float .f64 x, .float .f64 y, .float .f64 u] | 2 => v = .pointer (some ⟨w'.heap.size, 5, none⟩) | 3 => v = .agg #[.float .f64 b.sm, .float .f64 b.si, .float .f64 x2, .float .f64 y2, .float .f64 u2] | 6 => v = .int .i64 0 | _ => False) (so2 4 (w.heap.size + 1 + 1 + 1) 1 5 (w.heap.size + 1 + 1 + 1 + 1) 3) ?A_wo (by kernel_rfl) (by kernel_rfl) ?hA_wo ?hb_wo ?hd_wo ?hn_wo ?hS_wo ?hq_wo ?hst_wo ?ht_wo
  case hA_wo =>
    intro s
    simp only [putL, dstO, Act.put, List.getElem?_toArray, List.getElem?_cons_zero, List.getElem?_cons_succ, Option.bind_some, List.setIfInBounds_toArray, List.set_cons_zero, List.set_cons_succ, if_true]
    all_goals exact rfl
  case hb_wo => exact hB9
  case hd_wo =>
    intro i b d hi h
    rcases so2_some h with ⟨rfl, rfl, rfl⟩ | ⟨rfl, rfl, rfl⟩
    all_goals exact ⟨by decide, by simp [so2], by kernel_rfl⟩
  case hn_wo => exact so2_ne (by omega)
  case hS_wo =>
    intro i b d h
    rcases so2_some h with ⟨rfl, rfl, rfl⟩ | ⟨rfl, rfl, rfl⟩
    all_goals omega
  case hq_wo =>
    intro i o hi ho hso s hs W hb K hK
    rcases (show i = 0 ∨ i = 1 ∨ i = 2 ∨ i = 3 ∨ i = 4 ∨ i = 5 ∨ i = 6 by omega) with rfl | rfl | rfl | rfl | rfl | rfl | rfl
    · cases ho
      simp only [Act.put, List.setIfInBounds_toArray, List.set_cons_zero, List.set_cons_succ] at hK
      clear hs hso
      go_simp
      all_goals first | with_reducible exact hK.out _ _ rfl (bl_refl _) | exact hK.out _ _ rfl (bl_refl _)
    · cases ho
      have e0 : s 0 = _ := hs 0 (by decide) (by simp [so2]) (by kernel_rfl)
      simp only [e0] at hK ⊢
      simp only [Act.put, List.setIfInBounds_toArray, List.set_cons_zero, List.set_cons_succ] at hK
      clear hs hso
      refine wp_load_mid (P := Try.prog) 45 _ rfl (w'.heap.size) 0 rfl [.float .f64 a.sm, .float .f64 a.si, .float .f64 x, .float .f64 y, .float .f64 u] _ (Bo.rng hb hSA (so2_far (by omega) (by omega))) Try.underlying45 rfl (by kernel_rfl) ?_; exact hK.out _ _ rfl (bl_refl _)
    · cases ho
      simp only [Act.put, List.setIfInBounds_toArray, List.set_cons_zero, List.set_cons_succ] at hK
      clear hs hso
      go_simp
      all_goals first | with_reducible exact hK.out _ _ rfl (bl_refl _) | exact hK.out _ _ rfl (bl_refl _)
    · cases ho
      have e2 : s 2 = _ := hs 2 (by decide) (by simp [so2]) (by kernel_rfl)
      simp only [e2] at hK ⊢
      simp only [Act.put, List.setIfInBounds_toArray, List.set_cons_zero, List.set_cons_succ] at hK
      clear hs hso
      refine wp_load_mid (P := Try.prog) 45 _ rfl (w'.heap.size) 5 rfl [.float .f64 b.sm, .float .f64 b.si, .float .f64 x2, .float .f64 y2, .float .f64 u2] _ (Bo.rng hb hSB (so2_far (by omega) (by omega))) Try.underlying45 rfl (by kernel_rfl) ?_; exact hK.out _ _ rfl (bl_refl _)
    · simp [so2] at hso
    · simp [so2] at hso
    · cases ho
      simp only [Act.put, List.setIfInBounds_toArray, List.set_cons_zero, List.set_cons_succ] at hK
      clear hs hso
      go_simp
      all_goals first | with_reducible exact hK.out _ _ rfl (bl_refl _) | exact hK.out _ _ rfl (bl_refl _)
  case hst_wo =>
    intro i o b d hi ho hso s hs W hb K hK
    rcases so2_some hso with ⟨rfl, rfl, rfl⟩ | ⟨rfl, rfl, rfl⟩
    · cases ho
      have e1 : s 1 = _ := hs 1 (by decide) (by simp [so2]) (by kernel_rfl)
      simp only [e1] at hK ⊢
      have hth := hb.2.2.2 _ _ _ hth4
      refine wp_store_mid (P := Try.prog) 45 _ _ rfl _ 0 #[.float .f64 a.sm, .float .f64 a.si, .float .f64 x, .float .f64 y, .float .f64 u] rfl rfl hth (by kernel_rfl) (by kernel_rfl) ?_
      exact hK.out [.float .f64 a.sm, .float .f64 a.si, .float .f64 x, .float .f64 y, .float .f64 u] rfl hth
    · cases ho
      have e3 : s 3 = _ := hs 3 (by decide) (by simp [so2]) (by kernel_rfl)
      simp only [e3] at hK ⊢
      have hth := hb.2.2.2 _ _ _ hth5
      refine wp_store_mid (P := Try.prog) 45 _ _ rfl _ 0 #[.float .f64 b.sm, .float .f64 b.si, .float .f64 x2, .float .f64 y2, .float .f64 u2] rfl rfl hth (by kernel_rfl) (by kernel_rfl) ?_
      exact hK.out [.float .f64 b.sm, .float .f64 b.si, .float .f64 x2, .float .f64 y2, .float .f64 u2] rfl hth
  case ht_wo =>
    intro s hs W hB9 hb hout
    have e0 : s 0 = _ := hs 0 (by decide) (by simp [so2])
    have e1 : s 1 = _ := hs 1 (by decide) (by simp [so2])
    have e2 : s 2 = _ := hs 2 (by decide) (by simp [so2])
    have e3 : s 3 = _ := hs 3 (by decide) (by simp [so2])
    have e6 : s 6 = _ := hs 6 (by decide) (by simp [so2])
    have hr4 : W.rangeAt (w.heap.size + 1 + 1 + 1) 0 [.float .f64 a.sm, .float .f64 a.si, .float .f64 x, .float .f64 y, .float .f64 u] := by obtain ⟨cs, g1, g2⟩ := hout 4 _ _ (by decide) (so2_at0 (by decide)); rw [e1] at g1; injection g1 with g1; have g3 := congrArg Array.toList g1; simp only [List.toList_toArray] at g3; rw [← g3] at g2; exact g2
    have hr5 : W.rangeAt (w.heap.size + 1 + 1 + 1 + 1) 0 [.float .f64 b.sm, .float .f64 b.si, .float .f64 x2, .float .f64 y2, .float .f64 u2] := by obtain ⟨cs, g1, g2⟩ := hout 5 _ _ (by decide) (so2_at1 (by decide)); rw [e3] at g1; injection g1 with g1; have g3 := congrArg Array.toList g1; simp only [List.toList_toArray] at g3; rw [← g3] at g2; exact g2
    simp only [e0, e1, e2, e3, e6]
    clear hs hout e0 e1 e2 e3 e6
    repeat (first | go_values | go_skip | go_guarded | go_step | go_upon | go_back | dsimp only)
    refine bodyPost_ret (results_cct (c := 6) (d := 7) (r := 8) (ty := 45) (ty2 := 45) rfl rfl (run_loadVar_mid _ (w.heap.size + 1 + 1 + 1) 0 45 [.float .f64 a.sm, .float .f64 a.si, .float .f64 x, .float .f64 y, .float .f64 u] _ (hr4) Try.underlying45 rfl (by kernel_rfl)) rfl (run_loadVar_mid _ (w.heap.size + 1 + 1 + 1 + 1) 0 45 [.float .f64 b.sm, .float .f64 b.si, .float .f64 x2, .float .f64 y2, .float .f64 u2] _ (hr5) Try.underlying45 rfl (by kernel_rfl)) rfl) rfl ⟨x, y, u, x2, y2, u2, hx, hy, hu, hx2, hy2, hu2, rfl, hB9⟩

set_option maxRecDepth 100000 in
set_option maxHeartbeats 4000000 in
theorem one_no (R : RD) (a b : SD) (w : World) (hal : alB R a b = false) : Calls Try.prog 18 #[.agg #[.int .i64 R.ra, .int .i64 R.rb, .float .f64 R.r2, .float .f64 R.r3, .float .f64 R.r4, .float .f64 R.r5, .float .f64 R.r6, .float .f64 R.r7, .float .f64 R.r8, .float .f64 R.r9, .float .f64 R.r10, .float .f64 R.r11, .int .i64 R.ro, .float .f64 R.r13], .agg #[.float .f64 a.sm, .float .f64 a.si, .float .f64 a.sx, .float .f64 a.sy, .float .f64 a.ss], .agg #[.float .f64 b.sm, .float .f64 b.si, .float .f64 b.sx, .float .f64 b.sy, .float .f64 b.ss]] w fun e w' => e = .returned (.tuple #[.agg #[.int .i64 0, .int .i64 0, .float .f64 0, .float .f64 0, .float .f64 0, .float .f64 0, .float .f64 0, .float .f64 0, .float .f64 0, .float .f64 0, .float .f64 0, .float .f64 0, .int .i64 0, .float .f64 0], .agg #[.float .f64 0, .float .f64 0, .float .f64 0, .float .f64 0, .float .f64 0], .agg #[.float .f64 0, .float .f64 0, .float .f64 0, .float .f64 0, .float .f64 0], .int .i64 200]) ∧ Bel w w' := by
  obtain ⟨hR, hRt, hA, hAt, hBb, hBbt, hX3, hX3t, hX4, hX4t, hX5, hX5t, B0, hz0⟩ := frm3 R a b w
  go_enter Try.func18, Try.ntmps18
  repeat (first | (with_reducible show Oper.wp _ _ _ _ _ _; refine wp_load_mid (P := Try.prog) 43 _ rfl (w.heap.size) 0 rfl [.int .i64 R.ra, .int .i64 R.rb, .float .f64 R.r2, .float .f64 R.r3, .float .f64 R.r4, .float .f64 R.r5, .float .f64 R.r6, .float .f64 R.r7, .float .f64 R.r8, .float .f64 R.r9, .float .f64 R.r10, .float .f64 R.r11, .int .i64 R.ro, .float .f64 R.r13] _ (by with_reducible assumption) Try.underlying43 rfl (by kernel_rfl) ?_; simp only [go_sem]) | (with_reducible show Oper.wp _ _ _ _ _ _; refine wp_load_mid (P := Try.prog) 45 _ rfl (w.heap.size + 1) 0 rfl [.float .f64 a.sm, .float .f64 a.si, .float .f64 a.sx, .float .f64 a.sy, .float .f64 a.ss] _ (by with_reducible assumption) Try.underlying45 rfl (by kernel_rfl) ?_; simp only [go_sem]) | (with_reducible show Oper.wp _ _ _ _ _ _; refine wp_load_mid (P := Try.prog) 45 _ rfl (w.heap.size + 1 + 1) 0 rfl [.float .f64 b.sm, .float .f64 b.si, .float .f64 b.sx, .float .f64 b.sy, .float .f64 b.ss] _ (by with_reducible assumption) Try.underlying45 rfl (by kernel_rfl) ?_; simp only [go_sem]) | ((with_reducible show Oper.wp _ { dst := _, op := Op.build 45 _, type := _, pos := _, after := _, guard := _ } _ _ _ _); refine wp_build 45 _ rfl (.agg #[.float .f64 0, .float .f64 0, .float .f64 0, .float .f64 0, .float .f64 0]) (by kernel_rfl) ?_; simp only [go_sem]) | ((with_reducible show Oper.wp _ { dst := _, op := Op.build 43 _, type := _, pos := _, after := _, guard := _ } _ _ _ _); refine wp_build 43 _ rfl (.agg #[.int .i64 0, .int .i64 0, .float .f64 0, .float .f64 0, .float .f64 0, .float .f64 0, .float .f64 0, .float .f64 0, .float .f64 0, .float .f64 0, .float .f64 0, .float .f64 0, .int .i64 0, .float .f64 0]) (by kernel_rfl) ?_; simp only [go_sem]) | (go_at_call 58; (with_reducible refine (checked_w R a b _).mono ?_); rintro e w' ⟨rfl, hb⟩; rw [hal]; simp only [cond_true, cond_false]; have hN := there_new w' [.float .f64 0, .float .f64 0, .float .f64 0, .float .f64 0, .float .f64 0, .float .f64 0, .float .f64 0, .float .f64 0, .float .f64 0, .float .f64 0] 98; have B5 : Bel w' ((w'.alloc (.cells #[.float .f64 0, .float .f64 0, .float .f64 0, .float .f64 0, .float .f64 0, .float .f64 0, .float .f64 0, .float .f64 0, .float .f64 0, .float .f64 0] 98)).setCells w'.heap.size 0 [.float .f64 0, .float .f64 0, .float .f64 0, .float .f64 0, .float .f64 0, .float .f64 0, .float .f64 0, .float .f64 0, .float .f64 0, .float .f64 0]) := bel_setsJ _ _ (bl_alloc (bl_refl w') _ _) (Nat.le_refl _); have hL5 := World.rangeAt_setCells_same (w'.alloc (.cells #[.float .f64 0, .float .f64 0, .float .f64 0, .float .f64 0, .float .f64 0, .float .f64 0, .float .f64 0, .float .f64 0, .float .f64 0, .float .f64 0] 98)) w'.heap.size 0 [.float .f64 0, .float .f64 0, .float .f64 0, .float .f64 0, .float .f64 0, .float .f64 0, .float .f64 0, .float .f64 0, .float .f64 0, .float .f64 0] hN; have hz5 := hb.size) | ((with_reducible show Oper.wp _ { dst := _, op := Op.store 98 _ _, type := _, pos := _, after := _, guard := _ } _ _ _ _); refine wp_store_abs (P := Try.prog) 98 _ _ rfl (w'.heap.size) 0 #[.float .f64 0, .float .f64 0, .float .f64 0, .float .f64 0, .float .f64 0, .float .f64 0, .float .f64 0, .float .f64 0, .float .f64 0, .float .f64 0] rfl rfl hN (by kernel_rfl) (by kernel_rfl) (fun V => Bel w' V ∧ V.rangeAt w'.heap.size 0 [.float .f64 0, .float .f64 0, .float .f64 0, .float .f64 0, .float .f64 0, .float .f64 0, .float .f64 0, .float .f64 0, .float .f64 0, .float .f64 0] ∧ V.there w'.heap.size 0 10) ⟨B5, hL5, World.there_setCells hN _ _ _⟩ ?_; rintro V5 ⟨bV, hLV, hNV⟩; have hRV := rng_bel (rng_bel hR hb) bV; have BV := bl_trans (bl_trans B0 hb) bV; have hzV := bV.size; have sA := rng_bel (rng_bel hA hb) bV; have sB := rng_bel (rng_bel hBb hb) bV; clear hR hA hBb B5 hL5 hN B0; simp only [go_sem]) | ((with_reducible show Oper.wp _ { dst := _, op := Op.store 43 _ _, type := _, pos := _, after := _, guard := _ } _ _ _ _); refine wp_store_abs (P := Try.prog) 43 _ _ rfl (w.heap.size + 1 + 1 + 1) 0 #[.int .i64 0, .int .i64 0, .float .f64 0, .float .f64 0, .float .f64 0, .float .f64 0, .float .f64 0, .float .f64 0, .float .f64 0, .float .f64 0, .float .f64 0, .float .f64 0, .int .i64 0, .float .f64 0] rfl rfl (bel_there (bel_there hX3t hb) bV) (by kernel_rfl) (by kernel_rfl) (fun V => Bel w V ∧ V.rangeAt (w.heap.size + 1 + 1 + 1) 0 [.int .i64 0, .int .i64 0, .float .f64 0, .float .f64 0, .float .f64 0, .float .f64 0, .float .f64 0, .float .f64 0, .float .f64 0, .float .f64 0, .float .f64 0, .float .f64 0, .int .i64 0, .float .f64 0] ∧ V.there (w.heap.size + 1 + 1 + 1 + 1) 0 5 ∧ V.there (w.heap.size + 1 + 1 + 1 + 1 + 1) 0 5) ⟨bel_setsJ _ _ BV (by omega), World.rangeAt_setCells_same _ _ _ _ (bel_there (bel_there hX3t hb) bV), World.there_setCells (bel_there (bel_there hX4t hb) bV) _ _ _, World.there_setCells (bel_there (bel_there hX5t hb) bV) _ _ _⟩ ?_; rintro V6 ⟨B6, h63, h64, h65⟩; simp only [go_sem]) | ((with_reducible show Oper.wp _ { dst := _, op := Op.store 45 _ _, type := _, pos := _, after := _, guard := _ } _ _ _ _); refine wp_store_abs (P := Try.prog) 45 _ _ rfl (w.heap.size + 1 + 1 + 1 + 1) 0 #[.float .f64 0, .float .f64 0, .float .f64 0, .float .f64 0, .float .f64 0] rfl rfl h64 (by kernel_rfl) (by kernel_rfl) (fun V => Bel w V ∧ V.rangeAt (w.heap.size + 1 + 1 + 1) 0 [.int .i64 0, .int .i64 0, .float .f64 0, .float .f64 0, .float .f64 0, .float .f64 0, .float .f64 0, .float .f64 0, .float .f64 0, .float .f64 0, .float .f64 0, .float .f64 0, .int .i64 0, .float .f64 0] ∧ V.rangeAt (w.heap.size + 1 + 1 + 1 + 1) 0 [.float .f64 0, .float .f64 0, .float .f64 0, .float .f64 0, .float .f64 0] ∧ V.there (w.heap.size + 1 + 1 + 1 + 1 + 1) 0 5) ⟨bel_setsJ _ _ B6 (by omega), World.rangeAt_setCells_apart h63 _ _ _ (.inl (by omega)), World.rangeAt_setCells_same _ _ _ _ h64, World.there_setCells h65 _ _ _⟩ ?_; rintro V7 ⟨B7, h73, h74, h75⟩; simp only [go_sem]) | ((with_reducible show Oper.wp _ { dst := _, op := Op.store 45 _ _, type := _, pos := _, after := _, guard := _ } _ _ _ _); refine wp_store_abs (P := Try.prog) 45 _ _ rfl (w.heap.size + 1 + 1 + 1 + 1 + 1) 0 #[.float .f64 0, .float .f64 0, .float .f64 0, .float .f64 0, .float .f64 0] rfl rfl h75 (by kernel_rfl) (by kernel_rfl) (fun V => Bel w V ∧ V.rangeAt (w.heap.size + 1 + 1 + 1) 0 [.int .i64 0, .int .i64 0, .float .f64 0, .float .f64 0, .float .f64 0, .float .f64 0, .float .f64 0, .float .f64 0, .float .f64 0, .float .f64 0, .float .f64 0, .float .f64 0, .int .i64 0, .float .f64 0] ∧ V.rangeAt (w.heap.size + 1 + 1 + 1 + 1) 0 [.float .f64 0, .float .f64 0, .float .f64 0, .float .f64 0, .float .f64 0] ∧ V.rangeAt (w.heap.size + 1 + 1 + 1 + 1 + 1) 0 [.float .f64 0, .float .f64 0, .float .f64 0, .float .f64 0, .float .f64 0]) ⟨bel_setsJ _ _ B7 (by omega), World.rangeAt_setCells_apart h73 _ _ _ (.inl (by omega)), World.rangeAt_setCells_apart h74 _ _ _ (.inl (by omega)), World.rangeAt_setCells_same _ _ _ _ h75⟩ ?_; rintro V8 ⟨B8, h83, h84, h85⟩; simp only [go_sem]) | go_values | go_skip | go_guarded | go_step | go_upon | go_back | dsimp only)
  refine bodyPost_ret (results_ccct (c := 6) (d := 7) (g := 8) (r := 9) (ty := 43) (ty2 := 45) (ty3 := 45) rfl rfl (run_loadVar_mid _ (w.heap.size + 1 + 1 + 1) 0 43 [.int .i64 0, .int .i64 0, .float .f64 0, .float .f64 0, .float .f64 0, .float .f64 0, .float .f64 0, .float .f64 0, .float .f64 0, .float .f64 0, .float .f64 0, .float .f64 0, .int .i64 0, .float .f64 0] _ (h83) Try.underlying43 rfl (by kernel_rfl)) rfl (run_loadVar_mid _ (w.heap.size + 1 + 1 + 1 + 1) 0 45 [.float .f64 0, .float .f64 0, .float .f64 0, .float .f64 0, .float .f64 0] _ (h84) Try.underlying45 rfl (by kernel_rfl)) rfl (run_loadVar_mid _ (w.heap.size + 1 + 1 + 1 + 1 + 1) 0 45 [.float .f64 0, .float .f64 0, .float .f64 0, .float .f64 0, .float .f64 0] _ (h85) Try.underlying45 rfl (by kernel_rfl)) rfl) rfl ⟨rfl, B8⟩

set_option maxRecDepth 100000 in
set_option maxHeartbeats 4000000 in
theorem one_s1 (R : RD) (a b : SD) (w : World) (oR : rok R) (oa : sok a) (ob : sok b) (hal : alB R a b = true) (h1 : okB R a b = false) : Calls Try.prog 18 #[.agg #[.int .i64 R.ra, .int .i64 R.rb, .float .f64 R.r2, .float .f64 R.r3, .float .f64 R.r4, .float .f64 R.r5, .float .f64 R.r6, .float .f64 R.r7, .float .f64 R.r8, .float .f64 R.r9, .float .f64 R.r10, .float .f64 R.r11, .int .i64 R.ro, .float .f64 R.r13], .agg #[.float .f64 a.sm, .float .f64 a.si, .float .f64 a.sx, .float .f64 a.sy, .float .f64 a.ss], .agg #[.float .f64 b.sm, .float .f64 b.si, .float .f64 b.sx, .float .f64 b.sy, .float .f64 b.ss]] w fun e w' => e = .returned (.tuple #[.agg #[.int .i64 R.ra, .int .i64 R.rb, .float .f64 R.r2, .float .f64 R.r3, .float .f64 R.r4, .float .f64 R.r5, .float .f64 R.r6, .float .f64 R.r7, .float .f64 R.r8, .float .f64 R.r9, .float .f64 R.r10, .float .f64 R.r11, .int .i64 R.ro, .float .f64 R.r13], .agg #[.float .f64 a.sm, .float .f64 a.si, .float .f64 a.sx, .float .f64 a.sy, .float .f64 a.ss], .agg #[.float .f64 b.sm, .float .f64 b.si, .float .f64 b.sx, .float .f64 b.sy, .float .f64 b.ss], .int .i64 0]) ∧ Bel w w' := by
  have hE := may_ends (R := R) (by unfold alB at hal; rw [Bool.and_eq_true] at hal; exact hal.1)
  obtain ⟨hR, hRt, hA, hAt, hBb, hBbt, hX3, hX3t, hX4, hX4t, hX5, hX5t, B0, hz0⟩ := frm3 R a b w
  go_enter Try.func18, Try.ntmps18
  repeat (first | (with_reducible show Oper.wp _ _ _ _ _ _; refine wp_load_mid (P := Try.prog) 43 _ rfl (w.heap.size) 0 rfl [.int .i64 R.ra, .int .i64 R.rb, .float .f64 R.r2, .float .f64 R.r3, .float .f64 R.r4, .float .f64 R.r5, .float .f64 R.r6, .float .f64 R.r7, .float .f64 R.r8, .float .f64 R.r9, .float .f64 R.r10, .float .f64 R.r11, .int .i64 R.ro, .float .f64 R.r13] _ (by with_reducible assumption) Try.underlying43 rfl (by kernel_rfl) ?_; simp only [go_sem]) | (with_reducible show Oper.wp _ _ _ _ _ _; refine wp_load_mid (P := Try.prog) 45 _ rfl (w.heap.size + 1) 0 rfl [.float .f64 a.sm, .float .f64 a.si, .float .f64 a.sx, .float .f64 a.sy, .float .f64 a.ss] _ (by with_reducible assumption) Try.underlying45 rfl (by kernel_rfl) ?_; simp only [go_sem]) | (with_reducible show Oper.wp _ _ _ _ _ _; refine wp_load_mid (P := Try.prog) 45 _ rfl (w.heap.size + 1 + 1) 0 rfl [.float .f64 b.sm, .float .f64 b.si, .float .f64 b.sx, .float .f64 b.sy, .float .f64 b.ss] _ (by with_reducible assumption) Try.underlying45 rfl (by kernel_rfl) ?_; simp only [go_sem]) | (go_at_call 58; (with_reducible refine (checked_w R a b _).mono ?_); rintro e w' ⟨rfl, hb⟩; rw [hal]; simp only [cond_true, cond_false]; have hN := there_new w' [.float .f64 0, .float .f64 0, .float .f64 0, .float .f64 0, .float .f64 0, .float .f64 0, .float .f64 0, .float .f64 0, .float .f64 0, .float .f64 0] 98; have B5 : Bel w' ((w'.alloc (.cells #[.float .f64 0, .float .f64 0, .float .f64 0, .float .f64 0, .float .f64 0, .float .f64 0, .float .f64 0, .float .f64 0, .float .f64 0, .float .f64 0] 98)).setCells w'.heap.size 0 [.float .f64 a.sm, .float .f64 a.si, .float .f64 a.sx, .float .f64 a.sy, .float .f64 a.ss, .float .f64 b.sm, .float .f64 b.si, .float .f64 b.sx, .float .f64 b.sy, .float .f64 b.ss]) := bel_setsJ _ _ (bl_alloc (bl_refl w') _ _) (Nat.le_refl _); have hL5 := World.rangeAt_setCells_same (w'.alloc (.cells #[.float .f64 0, .float .f64 0, .float .f64 0, .float .f64 0, .float .f64 0, .float .f64 0, .float .f64 0, .float .f64 0, .float .f64 0, .float .f64 0] 98)) w'.heap.size 0 [.float .f64 a.sm, .float .f64 a.si, .float .f64 a.sx, .float .f64 a.sy, .float .f64 a.ss, .float .f64 b.sm, .float .f64 b.si, .float .f64 b.sx, .float .f64 b.sy, .float .f64 b.ss] hN; have hz5 := hb.size) | ((with_reducible show Oper.wp _ { dst := _, op := Op.store 98 _ _, type := _, pos := _, after := _, guard := _ } _ _ _ _); refine wp_store_abs (P := Try.prog) 98 _ _ rfl (w'.heap.size) 0 #[.float .f64 a.sm, .float .f64 a.si, .float .f64 a.sx, .float .f64 a.sy, .float .f64 a.ss, .float .f64 b.sm, .float .f64 b.si, .float .f64 b.sx, .float .f64 b.sy, .float .f64 b.ss] rfl rfl hN (by kernel_rfl) (by kernel_rfl) (fun V => Bel w' V ∧ V.rangeAt w'.heap.size 0 [.float .f64 a.sm, .float .f64 a.si, .float .f64 a.sx, .float .f64 a.sy, .float .f64 a.ss, .float .f64 b.sm, .float .f64 b.si, .float .f64 b.sx, .float .f64 b.sy, .float .f64 b.ss] ∧ V.there w'.heap.size 0 10) ⟨B5, hL5, World.there_setCells hN _ _ _⟩ ?_; rintro V5 ⟨bV, hLV, hNV⟩; have hRV := rng_bel (rng_bel hR hb) bV; have BV := bl_trans (bl_trans B0 hb) bV; have hzV := bV.size; have sA := rng_bel (rng_bel hA hb) bV; have sB := rng_bel (rng_bel hBb hb) bV; clear hR hA hBb B5 hL5 hN B0; simp only [go_sem]) | (with_reducible show Oper.wp _ _ _ _ _ _; refine wp_load_mid (P := Try.prog) 98 _ rfl (w'.heap.size) 0 rfl [.float .f64 a.sm, .float .f64 a.si, .float .f64 a.sx, .float .f64 a.sy, .float .f64 a.ss, .float .f64 b.sm, .float .f64 b.si, .float .f64 b.sx, .float .f64 b.sy, .float .f64 b.ss] _ (by with_reducible assumption) Try.underlying98 rfl (by kernel_rfl) ?_; simp only [go_sem]) | (go_at_call 60; (with_reducible refine (solved_n R a b _ oR oa ob hE h1).mono ?_); rintro e w2 ⟨rfl, hb2⟩) | go_values | go_skip | go_guarded | go_step | go_upon | go_back | dsimp only)
  have hL8 := rng_bel hLV hb2
  have hR8 := rng_bel hRV hb2
  have hSA := rng_pre (l1 := [.float .f64 a.sm, .float .f64 a.si, .float .f64 a.sx, .float .f64 a.sy, .float .f64 a.ss]) (l2 := [.float .f64 b.sm, .float .f64 b.si, .float .f64 b.sx, .float .f64 b.sy, .float .f64 b.ss]) hL8
  have hSB := rng_suf (l1 := [.float .f64 a.sm, .float .f64 a.si, .float .f64 a.sx, .float .f64 a.sy, .float .f64 a.ss]) (l2 := [.float .f64 b.sm, .float .f64 b.si, .float .f64 b.sx, .float .f64 b.sy, .float .f64 b.ss]) hL8
  have hB9 := bl_trans BV hb2
  have hth5 := bel_there (bel_there (bel_there hX3t hb) bV) hb2
  have hth6 := bel_there (bel_there (bel_there hX4t hb) bV) hb2
  have hth7 := bel_there (bel_there (bel_there hX5t hb) bV) hb2
  refine wp_region_outs (w0 := w) 9 rfl (fun i v => match i with | 0 => v = .agg #[.int .i64 R.ra, .int .i64 R.rb, .float .f64 R.r2, .float .f64 R.r3, .float .f64 R.r4, .float .f64 R.r5, .float .f64 R.r6, .float .f64 R.r7, .float .f64 R.r8, .float .f64 R.r9, .float .f64 R.r10, .float .f64 R.r11, .int .i64 R.ro, .float .f64 R.r13] | 1 => v = .pointer (some ⟨w'.heap.size, 0, none⟩) | 2 => v = .agg #[.float .f64 a.sm, .float .f64 a.si, .float .f64 a.sx, .float .f64 a.sy, .float .f64 a.ss] | 3 => v = .pointer (some ⟨w'.heap.size, 5, none⟩) | 4 => v = .agg #[.float .f64 b.sm, .float .f64 b.si, .float .f64 b.sx, .float .f64 b.sy, .float .f64 b.ss] | 8 => v = .int .i64 0 | _ => False) (so3 5 (w.heap.size + 1 + 1 + 1) 0 6 (w.heap.size + 1 + 1 + 1 + 1) 2 7 (w.heap.size + 1 + 1 + 1 + 1 + 1) 4) ?A_w1 (by kernel_rfl) (by kernel_rfl) ?hA_w1 ?hb_w1 ?hd_w1 ?hn_w1 ?hS_w1 ?hq_w1 ?hst_w1 ?ht_w1
  case hA_w1 =>
    intro s
    simp only [putL, dstO, Act.put, List.getElem?_toArray, List.getElem?_cons_zero, List.getElem?_cons_succ, Option.bind_some, List.setIfInBounds_toArray, List.set_cons_zero, List.set_cons_succ, if_true]
    all_goals exact rfl
  case hb_w1 => exact hB9
  case hd_w1 =>
    intro i b d hi h
    rcases so3_some h with ⟨rfl, rfl, rfl⟩ | ⟨rfl, rfl, rfl⟩ | ⟨rfl, rfl, rfl⟩
    all_goals exact ⟨by decide, by simp [so3], by kernel_rfl⟩
  case hn_w1 => exact so3_ne (by omega) (by omega) (by omega)
  case hS_w1 =>
    intro i b d h
    rcases so3_some h with ⟨rfl, rfl, rfl⟩ | ⟨rfl, rfl, rfl⟩ | ⟨rfl, rfl, rfl⟩
    all_goals omega
  case hq_w1 =>
    intro i o hi ho hso s hs W hb K hK
    rcases (show i = 0 ∨ i = 1 ∨ i = 2 ∨ i = 3 ∨ i = 4 ∨ i = 5 ∨ i = 6 ∨ i = 7 ∨ i = 8 by omega) with rfl | rfl | rfl | rfl | rfl | rfl | rfl | rfl | rfl
    · cases ho
      simp only [Act.put, List.setIfInBounds_toArray, List.set_cons_zero, List.set_cons_succ] at hK
      clear hs hso
      refine wp_load_mid (P := Try.prog) 43 _ rfl (w.heap.size) 0 rfl [.int .i64 R.ra, .int .i64 R.rb, .float .f64 R.r2, .float .f64 R.r3, .float .f64 R.r4, .float .f64 R.r5, .float .f64 R.r6, .float .f64 R.r7, .float .f64 R.r8, .float .f64 R.r9, .float .f64 R.r10, .float .f64 R.r11, .int .i64 R.ro, .float .f64 R.r13] _ (Bo.rng hb hR8 (so3_far (by omega) (by omega) (by omega))) Try.underlying43 rfl (by kernel_rfl) ?_; exact hK.out _ _ rfl (bl_refl _)
    · cases ho
      simp only [Act.put, List.setIfInBounds_toArray, List.set_cons_zero, List.set_cons_succ] at hK
      clear hs hso
      go_simp
      all_goals first | with_reducible exact hK.out _ _ rfl (bl_refl _) | exact hK.out _ _ rfl (bl_refl _)
    · cases ho
      have e1 : s 1 = _ := hs 1 (by decide) (by simp [so3]) (by kernel_rfl)
      simp only [e1] at hK ⊢
      simp only [Act.put, List.setIfInBounds_toArray, List.set_cons_zero, List.set_cons_succ] at hK
      clear hs hso
      refine wp_load_mid (P := Try.prog) 45 _ rfl (w'.heap.size) 0 rfl [.float .f64 a.sm, .float .f64 a.si, .float .f64 a.sx, .float .f64 a.sy, .float .f64 a.ss] _ (Bo.rng hb hSA (so3_far (by omega) (by omega) (by omega))) Try.underlying45 rfl (by kernel_rfl) ?_; exact hK.out _ _ rfl (bl_refl _)
    · cases ho
      simp only [Act.put, List.setIfInBounds_toArray, List.set_cons_zero, List.set_cons_succ] at hK
      clear hs hso
      go_simp
      all_goals first | with_reducible exact hK.out _ _ rfl (bl_refl _) | exact hK.out _ _ rfl (bl_refl _)
    · cases ho
      have e3 : s 3 = _ := hs 3 (by decide) (by simp [so3]) (by kernel_rfl)
      simp only [e3] at hK ⊢
      simp only [Act.put, List.setIfInBounds_toArray, List.set_cons_zero, List.set_cons_succ] at hK
      clear hs hso
      refine wp_load_mid (P := Try.prog) 45 _ rfl (w'.heap.size) 5 rfl [.float .f64 b.sm, .float .f64 b.si, .float .f64 b.sx, .float .f64 b.sy, .float .f64 b.ss] _ (Bo.rng hb hSB (so3_far (by omega) (by omega) (by omega))) Try.underlying45 rfl (by kernel_rfl) ?_; exact hK.out _ _ rfl (bl_refl _)
    · simp [so3] at hso
    · simp [so3] at hso
    · simp [so3] at hso
    · cases ho
      simp only [Act.put, List.setIfInBounds_toArray, List.set_cons_zero, List.set_cons_succ] at hK
      clear hs hso
      go_simp
      all_goals first | with_reducible exact hK.out _ _ rfl (bl_refl _) | exact hK.out _ _ rfl (bl_refl _)
  case hst_w1 =>
    intro i o b d hi ho hso s hs W hb K hK
    rcases so3_some hso with ⟨rfl, rfl, rfl⟩ | ⟨rfl, rfl, rfl⟩ | ⟨rfl, rfl, rfl⟩
    · cases ho
      have e0 : s 0 = _ := hs 0 (by decide) (by simp [so3]) (by kernel_rfl)
      simp only [e0] at hK ⊢
      have hth := hb.2.2.2 _ _ _ hth5
      refine wp_store_mid (P := Try.prog) 43 _ _ rfl _ 0 #[.int .i64 R.ra, .int .i64 R.rb, .float .f64 R.r2, .float .f64 R.r3, .float .f64 R.r4, .float .f64 R.r5, .float .f64 R.r6, .float .f64 R.r7, .float .f64 R.r8, .float .f64 R.r9, .float .f64 R.r10, .float .f64 R.r11, .int .i64 R.ro, .float .f64 R.r13] rfl rfl hth (by kernel_rfl) (by kernel_rfl) ?_
      exact hK.out [.int .i64 R.ra, .int .i64 R.rb, .float .f64 R.r2, .float .f64 R.r3, .float .f64 R.r4, .float .f64 R.r5, .float .f64 R.r6, .float .f64 R.r7, .float .f64 R.r8, .float .f64 R.r9, .float .f64 R.r10, .float .f64 R.r11, .int .i64 R.ro, .float .f64 R.r13] rfl hth
    · cases ho
      have e2 : s 2 = _ := hs 2 (by decide) (by simp [so3]) (by kernel_rfl)
      simp only [e2] at hK ⊢
      have hth := hb.2.2.2 _ _ _ hth6
      refine wp_store_mid (P := Try.prog) 45 _ _ rfl _ 0 #[.float .f64 a.sm, .float .f64 a.si, .float .f64 a.sx, .float .f64 a.sy, .float .f64 a.ss] rfl rfl hth (by kernel_rfl) (by kernel_rfl) ?_
      exact hK.out [.float .f64 a.sm, .float .f64 a.si, .float .f64 a.sx, .float .f64 a.sy, .float .f64 a.ss] rfl hth
    · cases ho
      have e4 : s 4 = _ := hs 4 (by decide) (by simp [so3]) (by kernel_rfl)
      simp only [e4] at hK ⊢
      have hth := hb.2.2.2 _ _ _ hth7
      refine wp_store_mid (P := Try.prog) 45 _ _ rfl _ 0 #[.float .f64 b.sm, .float .f64 b.si, .float .f64 b.sx, .float .f64 b.sy, .float .f64 b.ss] rfl rfl hth (by kernel_rfl) (by kernel_rfl) ?_
      exact hK.out [.float .f64 b.sm, .float .f64 b.si, .float .f64 b.sx, .float .f64 b.sy, .float .f64 b.ss] rfl hth
  case ht_w1 =>
    intro s hs W hB9 hb hout
    have e0 : s 0 = _ := hs 0 (by decide) (by simp [so3])
    have e1 : s 1 = _ := hs 1 (by decide) (by simp [so3])
    have e2 : s 2 = _ := hs 2 (by decide) (by simp [so3])
    have e3 : s 3 = _ := hs 3 (by decide) (by simp [so3])
    have e4 : s 4 = _ := hs 4 (by decide) (by simp [so3])
    have e8 : s 8 = _ := hs 8 (by decide) (by simp [so3])
    have hr5 : W.rangeAt (w.heap.size + 1 + 1 + 1) 0 [.int .i64 R.ra, .int .i64 R.rb, .float .f64 R.r2, .float .f64 R.r3, .float .f64 R.r4, .float .f64 R.r5, .float .f64 R.r6, .float .f64 R.r7, .float .f64 R.r8, .float .f64 R.r9, .float .f64 R.r10, .float .f64 R.r11, .int .i64 R.ro, .float .f64 R.r13] := by obtain ⟨cs, g1, g2⟩ := hout 5 _ _ (by decide) (so3_at0 (by decide)); rw [e0] at g1; injection g1 with g1; have g3 := congrArg Array.toList g1; simp only [List.toList_toArray] at g3; rw [← g3] at g2; exact g2
    have hr6 : W.rangeAt (w.heap.size + 1 + 1 + 1 + 1) 0 [.float .f64 a.sm, .float .f64 a.si, .float .f64 a.sx, .float .f64 a.sy, .float .f64 a.ss] := by obtain ⟨cs, g1, g2⟩ := hout 6 _ _ (by decide) (so3_at1 (by decide)); rw [e2] at g1; injection g1 with g1; have g3 := congrArg Array.toList g1; simp only [List.toList_toArray] at g3; rw [← g3] at g2; exact g2
    have hr7 : W.rangeAt (w.heap.size + 1 + 1 + 1 + 1 + 1) 0 [.float .f64 b.sm, .float .f64 b.si, .float .f64 b.sx, .float .f64 b.sy, .float .f64 b.ss] := by obtain ⟨cs, g1, g2⟩ := hout 7 _ _ (by decide) (so3_at2 (by decide)); rw [e4] at g1; injection g1 with g1; have g3 := congrArg Array.toList g1; simp only [List.toList_toArray] at g3; rw [← g3] at g2; exact g2
    simp only [e0, e1, e2, e3, e4, e8]
    clear hs hout e0 e1 e2 e3 e4 e8
    repeat (first | go_values | go_skip | go_guarded | go_step | go_upon | go_back | dsimp only)
    refine bodyPost_ret (results_ccct (c := 6) (d := 7) (g := 8) (r := 9) (ty := 43) (ty2 := 45) (ty3 := 45) rfl rfl (run_loadVar_mid _ (w.heap.size + 1 + 1 + 1) 0 43 [.int .i64 R.ra, .int .i64 R.rb, .float .f64 R.r2, .float .f64 R.r3, .float .f64 R.r4, .float .f64 R.r5, .float .f64 R.r6, .float .f64 R.r7, .float .f64 R.r8, .float .f64 R.r9, .float .f64 R.r10, .float .f64 R.r11, .int .i64 R.ro, .float .f64 R.r13] _ (hr5) Try.underlying43 rfl (by kernel_rfl)) rfl (run_loadVar_mid _ (w.heap.size + 1 + 1 + 1 + 1) 0 45 [.float .f64 a.sm, .float .f64 a.si, .float .f64 a.sx, .float .f64 a.sy, .float .f64 a.ss] _ (hr6) Try.underlying45 rfl (by kernel_rfl)) rfl (run_loadVar_mid _ (w.heap.size + 1 + 1 + 1 + 1 + 1) 0 45 [.float .f64 b.sm, .float .f64 b.si, .float .f64 b.sx, .float .f64 b.sy, .float .f64 b.ss] _ (hr7) Try.underlying45 rfl (by kernel_rfl)) rfl) rfl ⟨rfl, hB9⟩

set_option maxRecDepth 100000 in
set_option maxHeartbeats 4000000 in
theorem one_s2 (R : RD) (a b : SD) (w : World) (oR : rok R) (oa : sok a) (ob : sok b) (hal : alB R a b = true) (h1 : okB R a b = true) (h2 : fiB R a b = false) : Calls Try.prog 18 #[.agg #[.int .i64 R.ra, .int .i64 R.rb, .float .f64 R.r2, .float .f64 R.r3, .float .f64 R.r4, .float .f64 R.r5, .float .f64 R.r6, .float .f64 R.r7, .float .f64 R.r8, .float .f64 R.r9, .float .f64 R.r10, .float .f64 R.r11, .int .i64 R.ro, .float .f64 R.r13], .agg #[.float .f64 a.sm, .float .f64 a.si, .float .f64 a.sx, .float .f64 a.sy, .float .f64 a.ss], .agg #[.float .f64 b.sm, .float .f64 b.si, .float .f64 b.sx, .float .f64 b.sy, .float .f64 b.ss]] w fun e w' => e = .returned (.tuple #[.agg #[.int .i64 R.ra, .int .i64 R.rb, .float .f64 R.r2, .float .f64 R.r3, .float .f64 R.r4, .float .f64 R.r5, .float .f64 R.r6, .float .f64 R.r7, .float .f64 R.r8, .float .f64 R.r9, .float .f64 R.r10, .float .f64 R.r11, .int .i64 R.ro, .float .f64 R.r13], .agg #[.float .f64 a.sm, .float .f64 a.si, .float .f64 a.sx, .float .f64 a.sy, .float .f64 a.ss], .agg #[.float .f64 b.sm, .float .f64 b.si, .float .f64 b.sx, .float .f64 b.sy, .float .f64 b.ss], .int .i64 0]) ∧ Bel w w' := by
  have hE := may_ends (R := R) (by unfold alB at hal; rw [Bool.and_eq_true] at hal; exact hal.1)
  obtain ⟨hR, hRt, hA, hAt, hBb, hBbt, hX3, hX3t, hX4, hX4t, hX5, hX5t, B0, hz0⟩ := frm3 R a b w
  go_enter Try.func18, Try.ntmps18
  repeat (first | (with_reducible show Oper.wp _ _ _ _ _ _; refine wp_load_mid (P := Try.prog) 43 _ rfl (w.heap.size) 0 rfl [.int .i64 R.ra, .int .i64 R.rb, .float .f64 R.r2, .float .f64 R.r3, .float .f64 R.r4, .float .f64 R.r5, .float .f64 R.r6, .float .f64 R.r7, .float .f64 R.r8, .float .f64 R.r9, .float .f64 R.r10, .float .f64 R.r11, .int .i64 R.ro, .float .f64 R.r13] _ (by with_reducible assumption) Try.underlying43 rfl (by kernel_rfl) ?_; simp only [go_sem]) | (with_reducible show Oper.wp _ _ _ _ _ _; refine wp_load_mid (P := Try.prog) 45 _ rfl (w.heap.size + 1) 0 rfl [.float .f64 a.sm, .float .f64 a.si, .float .f64 a.sx, .float .f64 a.sy, .float .f64 a.ss] _ (by with_reducible assumption) Try.underlying45 rfl (by kernel_rfl) ?_; simp only [go_sem]) | (with_reducible show Oper.wp _ _ _ _ _ _; refine wp_load_mid (P := Try.prog) 45 _ rfl (w.heap.size + 1 + 1) 0 rfl [.float .f64 b.sm, .float .f64 b.si, .float .f64 b.sx, .float .f64 b.sy, .float .f64 b.ss] _ (by with_reducible assumption) Try.underlying45 rfl (by kernel_rfl) ?_; simp only [go_sem]) | (go_at_call 58; (with_reducible refine (checked_w R a b _).mono ?_); rintro e w' ⟨rfl, hb⟩; rw [hal]; simp only [cond_true, cond_false]; have hN := there_new w' [.float .f64 0, .float .f64 0, .float .f64 0, .float .f64 0, .float .f64 0, .float .f64 0, .float .f64 0, .float .f64 0, .float .f64 0, .float .f64 0] 98; have B5 : Bel w' ((w'.alloc (.cells #[.float .f64 0, .float .f64 0, .float .f64 0, .float .f64 0, .float .f64 0, .float .f64 0, .float .f64 0, .float .f64 0, .float .f64 0, .float .f64 0] 98)).setCells w'.heap.size 0 [.float .f64 a.sm, .float .f64 a.si, .float .f64 a.sx, .float .f64 a.sy, .float .f64 a.ss, .float .f64 b.sm, .float .f64 b.si, .float .f64 b.sx, .float .f64 b.sy, .float .f64 b.ss]) := bel_setsJ _ _ (bl_alloc (bl_refl w') _ _) (Nat.le_refl _); have hL5 := World.rangeAt_setCells_same (w'.alloc (.cells #[.float .f64 0, .float .f64 0, .float .f64 0, .float .f64 0, .float .f64 0, .float .f64 0, .float .f64 0, .float .f64 0, .float .f64 0, .float .f64 0] 98)) w'.heap.size 0 [.float .f64 a.sm, .float .f64 a.si, .float .f64 a.sx, .float .f64 a.sy, .float .f64 a.ss, .float .f64 b.sm, .float .f64 b.si, .float .f64 b.sx, .float .f64 b.sy, .float .f64 b.ss] hN; have hz5 := hb.size) | ((with_reducible show Oper.wp _ { dst := _, op := Op.store 98 _ _, type := _, pos := _, after := _, guard := _ } _ _ _ _); refine wp_store_abs (P := Try.prog) 98 _ _ rfl (w'.heap.size) 0 #[.float .f64 a.sm, .float .f64 a.si, .float .f64 a.sx, .float .f64 a.sy, .float .f64 a.ss, .float .f64 b.sm, .float .f64 b.si, .float .f64 b.sx, .float .f64 b.sy, .float .f64 b.ss] rfl rfl hN (by kernel_rfl) (by kernel_rfl) (fun V => Bel w' V ∧ V.rangeAt w'.heap.size 0 [.float .f64 a.sm, .float .f64 a.si, .float .f64 a.sx, .float .f64 a.sy, .float .f64 a.ss, .float .f64 b.sm, .float .f64 b.si, .float .f64 b.sx, .float .f64 b.sy, .float .f64 b.ss] ∧ V.there w'.heap.size 0 10) ⟨B5, hL5, World.there_setCells hN _ _ _⟩ ?_; rintro V5 ⟨bV, hLV, hNV⟩; have hRV := rng_bel (rng_bel hR hb) bV; have BV := bl_trans (bl_trans B0 hb) bV; have hzV := bV.size; have sA := rng_bel (rng_bel hA hb) bV; have sB := rng_bel (rng_bel hBb hb) bV; clear hR hA hBb B5 hL5 hN B0; simp only [go_sem]) | (with_reducible show Oper.wp _ _ _ _ _ _; refine wp_load_mid (P := Try.prog) 98 _ rfl (w'.heap.size) 0 rfl [.float .f64 a.sm, .float .f64 a.si, .float .f64 a.sx, .float .f64 a.sy, .float .f64 a.ss, .float .f64 b.sm, .float .f64 b.si, .float .f64 b.sx, .float .f64 b.sy, .float .f64 b.ss] _ (by with_reducible assumption) Try.underlying98 rfl (by kernel_rfl) ?_; simp only [go_sem]) | (go_at_call 60; (with_reducible refine (solved_y R a b _ oR oa ob hE h1).mono ?_); rintro e w2 ⟨q, hq, rfl, hb2⟩; rw [h2]) | go_values | go_skip | go_guarded | go_step | go_upon | go_back | dsimp only)
  have hL8 := rng_bel hLV hb2
  have hR8 := rng_bel hRV hb2
  have hSA := rng_pre (l1 := [.float .f64 a.sm, .float .f64 a.si, .float .f64 a.sx, .float .f64 a.sy, .float .f64 a.ss]) (l2 := [.float .f64 b.sm, .float .f64 b.si, .float .f64 b.sx, .float .f64 b.sy, .float .f64 b.ss]) hL8
  have hSB := rng_suf (l1 := [.float .f64 a.sm, .float .f64 a.si, .float .f64 a.sx, .float .f64 a.sy, .float .f64 a.ss]) (l2 := [.float .f64 b.sm, .float .f64 b.si, .float .f64 b.sx, .float .f64 b.sy, .float .f64 b.ss]) hL8
  have hB9 := bl_trans BV hb2
  have hth5 := bel_there (bel_there (bel_there hX3t hb) bV) hb2
  have hth6 := bel_there (bel_there (bel_there hX4t hb) bV) hb2
  have hth7 := bel_there (bel_there (bel_there hX5t hb) bV) hb2
  refine wp_region_outs (w0 := w) 9 rfl (fun i v => match i with | 0 => v = .agg #[.int .i64 R.ra, .int .i64 R.rb, .float .f64 R.r2, .float .f64 R.r3, .float .f64 R.r4, .float .f64 R.r5, .float .f64 R.r6, .float .f64 R.r7, .float .f64 R.r8, .float .f64 R.r9, .float .f64 R.r10, .float .f64 R.r11, .int .i64 R.ro, .float .f64 R.r13] | 1 => v = .pointer (some ⟨w'.heap.size, 0, none⟩) | 2 => v = .agg #[.float .f64 a.sm, .float .f64 a.si, .float .f64 a.sx, .float .f64 a.sy, .float .f64 a.ss] | 3 => v = .pointer (some ⟨w'.heap.size, 5, none⟩) | 4 => v = .agg #[.float .f64 b.sm, .float .f64 b.si, .float .f64 b.sx, .float .f64 b.sy, .float .f64 b.ss] | 8 => v = .int .i64 0 | _ => False) (so3 5 (w.heap.size + 1 + 1 + 1) 0 6 (w.heap.size + 1 + 1 + 1 + 1) 2 7 (w.heap.size + 1 + 1 + 1 + 1 + 1) 4) ?A_w1 (by kernel_rfl) (by kernel_rfl) ?hA_w1 ?hb_w1 ?hd_w1 ?hn_w1 ?hS_w1 ?hq_w1 ?hst_w1 ?ht_w1
  case hA_w1 =>
    intro s
    simp only [putL, dstO, Act.put, List.getElem?_toArray, List.getElem?_cons_zero, List.getElem?_cons_succ, Option.bind_some, List.setIfInBounds_toArray, List.set_cons_zero, List.set_cons_succ, if_true]
    all_goals exact rfl
  case hb_w1 => exact hB9
  case hd_w1 =>
    intro i b d hi h
    rcases so3_some h with ⟨rfl, rfl, rfl⟩ | ⟨rfl, rfl, rfl⟩ | ⟨rfl, rfl, rfl⟩
    all_goals exact ⟨by decide, by simp [so3], by kernel_rfl⟩
  case hn_w1 => exact so3_ne (by omega) (by omega) (by omega)
  case hS_w1 =>
    intro i b d h
    rcases so3_some h with ⟨rfl, rfl, rfl⟩ | ⟨rfl, rfl, rfl⟩ | ⟨rfl, rfl, rfl⟩
    all_goals omega
  case hq_w1 =>
    intro i o hi ho hso s hs W hb K hK
    rcases (show i = 0 ∨ i = 1 ∨ i = 2 ∨ i = 3 ∨ i = 4 ∨ i = 5 ∨ i = 6 ∨ i = 7 ∨ i = 8 by omega) with rfl | rfl | rfl | rfl | rfl | rfl | rfl | rfl | rfl
    · cases ho
      simp only [Act.put, List.setIfInBounds_toArray, List.set_cons_zero, List.set_cons_succ] at hK
      clear hs hso
      refine wp_load_mid (P := Try.prog) 43 _ rfl (w.heap.size) 0 rfl [.int .i64 R.ra, .int .i64 R.rb, .float .f64 R.r2, .float .f64 R.r3, .float .f64 R.r4, .float .f64 R.r5, .float .f64 R.r6, .float .f64 R.r7, .float .f64 R.r8, .float .f64 R.r9, .float .f64 R.r10, .float .f64 R.r11, .int .i64 R.ro, .float .f64 R.r13] _ (Bo.rng hb hR8 (so3_far (by omega) (by omega) (by omega))) Try.underlying43 rfl (by kernel_rfl) ?_; exact hK.out _ _ rfl (bl_refl _)
    · cases ho
      simp only [Act.put, List.setIfInBounds_toArray, List.set_cons_zero, List.set_cons_succ] at hK
      clear hs hso
      go_simp
      all_goals first | with_reducible exact hK.out _ _ rfl (bl_refl _) | exact hK.out _ _ rfl (bl_refl _)
    · cases ho
      have e1 : s 1 = _ := hs 1 (by decide) (by simp [so3]) (by kernel_rfl)
      simp only [e1] at hK ⊢
      simp only [Act.put, List.setIfInBounds_toArray, List.set_cons_zero, List.set_cons_succ] at hK
      clear hs hso
      refine wp_load_mid (P := Try.prog) 45 _ rfl (w'.heap.size) 0 rfl [.float .f64 a.sm, .float .f64 a.si, .float .f64 a.sx, .float .f64 a.sy, .float .f64 a.ss] _ (Bo.rng hb hSA (so3_far (by omega) (by omega) (by omega))) Try.underlying45 rfl (by kernel_rfl) ?_; exact hK.out _ _ rfl (bl_refl _)
    · cases ho
      simp only [Act.put, List.setIfInBounds_toArray, List.set_cons_zero, List.set_cons_succ] at hK
      clear hs hso
      go_simp
      all_goals first | with_reducible exact hK.out _ _ rfl (bl_refl _) | exact hK.out _ _ rfl (bl_refl _)
    · cases ho
      have e3 : s 3 = _ := hs 3 (by decide) (by simp [so3]) (by kernel_rfl)
      simp only [e3] at hK ⊢
      simp only [Act.put, List.setIfInBounds_toArray, List.set_cons_zero, List.set_cons_succ] at hK
      clear hs hso
      refine wp_load_mid (P := Try.prog) 45 _ rfl (w'.heap.size) 5 rfl [.float .f64 b.sm, .float .f64 b.si, .float .f64 b.sx, .float .f64 b.sy, .float .f64 b.ss] _ (Bo.rng hb hSB (so3_far (by omega) (by omega) (by omega))) Try.underlying45 rfl (by kernel_rfl) ?_; exact hK.out _ _ rfl (bl_refl _)
    · simp [so3] at hso
    · simp [so3] at hso
    · simp [so3] at hso
    · cases ho
      simp only [Act.put, List.setIfInBounds_toArray, List.set_cons_zero, List.set_cons_succ] at hK
      clear hs hso
      go_simp
      all_goals first | with_reducible exact hK.out _ _ rfl (bl_refl _) | exact hK.out _ _ rfl (bl_refl _)
  case hst_w1 =>
    intro i o b d hi ho hso s hs W hb K hK
    rcases so3_some hso with ⟨rfl, rfl, rfl⟩ | ⟨rfl, rfl, rfl⟩ | ⟨rfl, rfl, rfl⟩
    · cases ho
      have e0 : s 0 = _ := hs 0 (by decide) (by simp [so3]) (by kernel_rfl)
      simp only [e0] at hK ⊢
      have hth := hb.2.2.2 _ _ _ hth5
      refine wp_store_mid (P := Try.prog) 43 _ _ rfl _ 0 #[.int .i64 R.ra, .int .i64 R.rb, .float .f64 R.r2, .float .f64 R.r3, .float .f64 R.r4, .float .f64 R.r5, .float .f64 R.r6, .float .f64 R.r7, .float .f64 R.r8, .float .f64 R.r9, .float .f64 R.r10, .float .f64 R.r11, .int .i64 R.ro, .float .f64 R.r13] rfl rfl hth (by kernel_rfl) (by kernel_rfl) ?_
      exact hK.out [.int .i64 R.ra, .int .i64 R.rb, .float .f64 R.r2, .float .f64 R.r3, .float .f64 R.r4, .float .f64 R.r5, .float .f64 R.r6, .float .f64 R.r7, .float .f64 R.r8, .float .f64 R.r9, .float .f64 R.r10, .float .f64 R.r11, .int .i64 R.ro, .float .f64 R.r13] rfl hth
    · cases ho
      have e2 : s 2 = _ := hs 2 (by decide) (by simp [so3]) (by kernel_rfl)
      simp only [e2] at hK ⊢
      have hth := hb.2.2.2 _ _ _ hth6
      refine wp_store_mid (P := Try.prog) 45 _ _ rfl _ 0 #[.float .f64 a.sm, .float .f64 a.si, .float .f64 a.sx, .float .f64 a.sy, .float .f64 a.ss] rfl rfl hth (by kernel_rfl) (by kernel_rfl) ?_
      exact hK.out [.float .f64 a.sm, .float .f64 a.si, .float .f64 a.sx, .float .f64 a.sy, .float .f64 a.ss] rfl hth
    · cases ho
      have e4 : s 4 = _ := hs 4 (by decide) (by simp [so3]) (by kernel_rfl)
      simp only [e4] at hK ⊢
      have hth := hb.2.2.2 _ _ _ hth7
      refine wp_store_mid (P := Try.prog) 45 _ _ rfl _ 0 #[.float .f64 b.sm, .float .f64 b.si, .float .f64 b.sx, .float .f64 b.sy, .float .f64 b.ss] rfl rfl hth (by kernel_rfl) (by kernel_rfl) ?_
      exact hK.out [.float .f64 b.sm, .float .f64 b.si, .float .f64 b.sx, .float .f64 b.sy, .float .f64 b.ss] rfl hth
  case ht_w1 =>
    intro s hs W hB9 hb hout
    have e0 : s 0 = _ := hs 0 (by decide) (by simp [so3])
    have e1 : s 1 = _ := hs 1 (by decide) (by simp [so3])
    have e2 : s 2 = _ := hs 2 (by decide) (by simp [so3])
    have e3 : s 3 = _ := hs 3 (by decide) (by simp [so3])
    have e4 : s 4 = _ := hs 4 (by decide) (by simp [so3])
    have e8 : s 8 = _ := hs 8 (by decide) (by simp [so3])
    have hr5 : W.rangeAt (w.heap.size + 1 + 1 + 1) 0 [.int .i64 R.ra, .int .i64 R.rb, .float .f64 R.r2, .float .f64 R.r3, .float .f64 R.r4, .float .f64 R.r5, .float .f64 R.r6, .float .f64 R.r7, .float .f64 R.r8, .float .f64 R.r9, .float .f64 R.r10, .float .f64 R.r11, .int .i64 R.ro, .float .f64 R.r13] := by obtain ⟨cs, g1, g2⟩ := hout 5 _ _ (by decide) (so3_at0 (by decide)); rw [e0] at g1; injection g1 with g1; have g3 := congrArg Array.toList g1; simp only [List.toList_toArray] at g3; rw [← g3] at g2; exact g2
    have hr6 : W.rangeAt (w.heap.size + 1 + 1 + 1 + 1) 0 [.float .f64 a.sm, .float .f64 a.si, .float .f64 a.sx, .float .f64 a.sy, .float .f64 a.ss] := by obtain ⟨cs, g1, g2⟩ := hout 6 _ _ (by decide) (so3_at1 (by decide)); rw [e2] at g1; injection g1 with g1; have g3 := congrArg Array.toList g1; simp only [List.toList_toArray] at g3; rw [← g3] at g2; exact g2
    have hr7 : W.rangeAt (w.heap.size + 1 + 1 + 1 + 1 + 1) 0 [.float .f64 b.sm, .float .f64 b.si, .float .f64 b.sx, .float .f64 b.sy, .float .f64 b.ss] := by obtain ⟨cs, g1, g2⟩ := hout 7 _ _ (by decide) (so3_at2 (by decide)); rw [e4] at g1; injection g1 with g1; have g3 := congrArg Array.toList g1; simp only [List.toList_toArray] at g3; rw [← g3] at g2; exact g2
    simp only [e0, e1, e2, e3, e4, e8]
    clear hs hout e0 e1 e2 e3 e4 e8
    repeat (first | go_values | go_skip | go_guarded | go_step | go_upon | go_back | dsimp only)
    refine bodyPost_ret (results_ccct (c := 6) (d := 7) (g := 8) (r := 9) (ty := 43) (ty2 := 45) (ty3 := 45) rfl rfl (run_loadVar_mid _ (w.heap.size + 1 + 1 + 1) 0 43 [.int .i64 R.ra, .int .i64 R.rb, .float .f64 R.r2, .float .f64 R.r3, .float .f64 R.r4, .float .f64 R.r5, .float .f64 R.r6, .float .f64 R.r7, .float .f64 R.r8, .float .f64 R.r9, .float .f64 R.r10, .float .f64 R.r11, .int .i64 R.ro, .float .f64 R.r13] _ (hr5) Try.underlying43 rfl (by kernel_rfl)) rfl (run_loadVar_mid _ (w.heap.size + 1 + 1 + 1 + 1) 0 45 [.float .f64 a.sm, .float .f64 a.si, .float .f64 a.sx, .float .f64 a.sy, .float .f64 a.ss] _ (hr6) Try.underlying45 rfl (by kernel_rfl)) rfl (run_loadVar_mid _ (w.heap.size + 1 + 1 + 1 + 1 + 1) 0 45 [.float .f64 b.sm, .float .f64 b.si, .float .f64 b.sx, .float .f64 b.sy, .float .f64 b.ss] _ (hr7) Try.underlying45 rfl (by kernel_rfl)) rfl) rfl ⟨rfl, hB9⟩

set_option maxRecDepth 100000 in
set_option maxHeartbeats 4000000 in
theorem one_ok (R : RD) (a b : SD) (w : World) (oR : rok R) (oa : sok a) (ob : sok b) (hal : alB R a b = true) (h1 : okB R a b = true) (h2 : fiB R a b = true) : Calls Try.prog 18 #[.agg #[.int .i64 R.ra, .int .i64 R.rb, .float .f64 R.r2, .float .f64 R.r3, .float .f64 R.r4, .float .f64 R.r5, .float .f64 R.r6, .float .f64 R.r7, .float .f64 R.r8, .float .f64 R.r9, .float .f64 R.r10, .float .f64 R.r11, .int .i64 R.ro, .float .f64 R.r13], .agg #[.float .f64 a.sm, .float .f64 a.si, .float .f64 a.sx, .float .f64 a.sy, .float .f64 a.ss], .agg #[.float .f64 b.sm, .float .f64 b.si, .float .f64 b.sx, .float .f64 b.sy, .float .f64 b.ss]] w fun e w' => ∃ q x y u x2 y2 u2, isF q (quF R a b) ∧ isF x (puX a.sm a.sx R.r2 (dfF R a b)) ∧ isF y (puX a.sm a.sy R.r3 (dfF R a b)) ∧ isF u (puT a.si a.ss R.r6 (dfF R a b)) ∧ isF x2 (puX b.sm b.sx R.r4 (dfF R a b)) ∧ isF y2 (puX b.sm b.sy R.r5 (dfF R a b)) ∧ isF u2 (puT b.si b.ss R.r7 (dfF R a b)) ∧ e = .returned (.tuple #[.agg #[.int .i64 R.ra, .int .i64 R.rb, .float .f64 R.r2, .float .f64 R.r3, .float .f64 R.r4, .float .f64 R.r5, .float .f64 R.r6, .float .f64 R.r7, .float .f64 R.r8, .float .f64 R.r9, .float .f64 R.r10, .float .f64 q, .int .i64 R.ro, .float .f64 R.r13], .agg #[.float .f64 a.sm, .float .f64 a.si, .float .f64 x, .float .f64 y, .float .f64 u], .agg #[.float .f64 b.sm, .float .f64 b.si, .float .f64 x2, .float .f64 y2, .float .f64 u2], .int .i64 0]) ∧ Bel w w' := by
  have hE := may_ends (R := R) (by unfold alB at hal; rw [Bool.and_eq_true] at hal; exact hal.1)
  have q3 := run_sub Try.prog
  obtain ⟨hR, hRt, hA, hAt, hBb, hBbt, hX3, hX3t, hX4, hX4t, hX5, hX5t, B0, hz0⟩ := frm3 R a b w
  go_enter Try.func18, Try.ntmps18
  repeat (first | (with_reducible show Oper.wp _ _ _ _ _ _; refine wp_load_mid (P := Try.prog) 43 _ rfl (w.heap.size) 0 rfl [.int .i64 R.ra, .int .i64 R.rb, .float .f64 R.r2, .float .f64 R.r3, .float .f64 R.r4, .float .f64 R.r5, .float .f64 R.r6, .float .f64 R.r7, .float .f64 R.r8, .float .f64 R.r9, .float .f64 R.r10, .float .f64 R.r11, .int .i64 R.ro, .float .f64 R.r13] _ (by with_reducible assumption) Try.underlying43 rfl (by kernel_rfl) ?_; simp only [go_sem]) | (with_reducible show Oper.wp _ _ _ _ _ _; refine wp_load_mid (P := Try.prog) 45 _ rfl (w.heap.size + 1) 0 rfl [.float .f64 a.sm, .float .f64 a.si, .float .f64 a.sx, .float .f64 a.sy, .float .f64 a.ss] _ (by with_reducible assumption) Try.underlying45 rfl (by kernel_rfl) ?_; simp only [go_sem]) | (with_reducible show Oper.wp _ _ _ _ _ _; refine wp_load_mid (P := Try.prog) 45 _ rfl (w.heap.size + 1 + 1) 0 rfl [.float .f64 b.sm, .float .f64 b.si, .float .f64 b.sx, .float .f64 b.sy, .float .f64 b.ss] _ (by with_reducible assumption) Try.underlying45 rfl (by kernel_rfl) ?_; simp only [go_sem]) | (go_at_call 58; (with_reducible refine (checked_w R a b _).mono ?_); rintro e w' ⟨rfl, hb⟩; rw [hal]; simp only [cond_true, cond_false]; have hN := there_new w' [.float .f64 0, .float .f64 0, .float .f64 0, .float .f64 0, .float .f64 0, .float .f64 0, .float .f64 0, .float .f64 0, .float .f64 0, .float .f64 0] 98; have B5 : Bel w' ((w'.alloc (.cells #[.float .f64 0, .float .f64 0, .float .f64 0, .float .f64 0, .float .f64 0, .float .f64 0, .float .f64 0, .float .f64 0, .float .f64 0, .float .f64 0] 98)).setCells w'.heap.size 0 [.float .f64 a.sm, .float .f64 a.si, .float .f64 a.sx, .float .f64 a.sy, .float .f64 a.ss, .float .f64 b.sm, .float .f64 b.si, .float .f64 b.sx, .float .f64 b.sy, .float .f64 b.ss]) := bel_setsJ _ _ (bl_alloc (bl_refl w') _ _) (Nat.le_refl _); have hL5 := World.rangeAt_setCells_same (w'.alloc (.cells #[.float .f64 0, .float .f64 0, .float .f64 0, .float .f64 0, .float .f64 0, .float .f64 0, .float .f64 0, .float .f64 0, .float .f64 0, .float .f64 0] 98)) w'.heap.size 0 [.float .f64 a.sm, .float .f64 a.si, .float .f64 a.sx, .float .f64 a.sy, .float .f64 a.ss, .float .f64 b.sm, .float .f64 b.si, .float .f64 b.sx, .float .f64 b.sy, .float .f64 b.ss] hN; have hz5 := hb.size) | ((with_reducible show Oper.wp _ { dst := _, op := Op.store 98 _ _, type := _, pos := _, after := _, guard := _ } _ _ _ _); refine wp_store_abs (P := Try.prog) 98 _ _ rfl (w'.heap.size) 0 #[.float .f64 a.sm, .float .f64 a.si, .float .f64 a.sx, .float .f64 a.sy, .float .f64 a.ss, .float .f64 b.sm, .float .f64 b.si, .float .f64 b.sx, .float .f64 b.sy, .float .f64 b.ss] rfl rfl hN (by kernel_rfl) (by kernel_rfl) (fun V => Bel w' V ∧ V.rangeAt w'.heap.size 0 [.float .f64 a.sm, .float .f64 a.si, .float .f64 a.sx, .float .f64 a.sy, .float .f64 a.ss, .float .f64 b.sm, .float .f64 b.si, .float .f64 b.sx, .float .f64 b.sy, .float .f64 b.ss] ∧ V.there w'.heap.size 0 10) ⟨B5, hL5, World.there_setCells hN _ _ _⟩ ?_; rintro V5 ⟨bV, hLV, hNV⟩; have hRV := rng_bel (rng_bel hR hb) bV; have BV := bl_trans (bl_trans B0 hb) bV; have hzV := bV.size; have sA := rng_bel (rng_bel hA hb) bV; have sB := rng_bel (rng_bel hBb hb) bV; clear hR hA hBb B5 hL5 hN B0; simp only [go_sem]) | (with_reducible show Oper.wp _ _ _ _ _ _; refine wp_load_mid (P := Try.prog) 98 _ rfl (w'.heap.size) 0 rfl [.float .f64 a.sm, .float .f64 a.si, .float .f64 a.sx, .float .f64 a.sy, .float .f64 a.ss, .float .f64 b.sm, .float .f64 b.si, .float .f64 b.sx, .float .f64 b.sy, .float .f64 b.ss] _ (by with_reducible assumption) Try.underlying98 rfl (by kernel_rfl) ?_; simp only [go_sem]) | (go_at_call 60; (with_reducible refine (solved_y R a b _ oR oa ob hE h1).mono ?_); rintro e w2 ⟨q, hq, rfl, hb2⟩; rw [h2]; have hL2 := rng_bel hLV hb2; have hR2 := rng_bel hRV hb2; (have k2 : w2.cell? ⟨w.heap.size, 11, none⟩ = some (.float .f64 R.r11) := by have h := hR2 11 _ rfl; rwa [Nat.zero_add] at h)) | (go_at_call 61; (refine (pushed_w R a b (P := dfF R a b) _ oR oa ob (o_is _ hq (isF_r oR.2.2.2.2.2.2.2.2.2.1))).mono ?_); rintro e w3 ⟨x, y, u, x2, y2, u2, hx, hy, hu, hx2, hy2, hu2, rfl, hb3⟩; replace hb3 := bl_trans (show Bel w2 _ by repeat (first | exact bl_refl _ | assumption | apply bl_drewN | apply bl_drew | apply bl_alloc | refine bl_set ?_ (by simp <;> omega) | refine bl_trans ?_ (by assumption))) hb3) | ((with_reducible show Oper.wp _ { dst := _, op := Op.store 98 _ _, type := _, pos := _, after := _, guard := _ } _ _ _ _); refine wp_store_abs (P := Try.prog) 98 _ _ rfl (w'.heap.size) 0 #[.float .f64 a.sm, .float .f64 a.si, .float .f64 x, .float .f64 y, .float .f64 u, .float .f64 b.sm, .float .f64 b.si, .float .f64 x2, .float .f64 y2, .float .f64 u2] rfl rfl (bel_there (bel_there hNV hb2) hb3) (by kernel_rfl) (by kernel_rfl) (fun V => Bel w V ∧ V.rangeAt w'.heap.size 0 [.float .f64 a.sm, .float .f64 a.si, .float .f64 x, .float .f64 y, .float .f64 u, .float .f64 b.sm, .float .f64 b.si, .float .f64 x2, .float .f64 y2, .float .f64 u2] ∧ V.rangeAt (w.heap.size) 0 [.int .i64 R.ra, .int .i64 R.rb, .float .f64 R.r2, .float .f64 R.r3, .float .f64 R.r4, .float .f64 R.r5, .float .f64 R.r6, .float .f64 R.r7, .float .f64 R.r8, .float .f64 R.r9, .float .f64 R.r10, .float .f64 R.r11, .int .i64 R.ro, .float .f64 R.r13] ∧ V.there (w.heap.size) 0 14 ∧ V.there (w.heap.size + 1 + 1 + 1) 0 14 ∧ V.there (w.heap.size + 1 + 1 + 1 + 1) 0 5 ∧ V.there (w.heap.size + 1 + 1 + 1 + 1 + 1) 0 5) ⟨bel_setsJ _ _ (bl_trans (bl_trans BV hb2) hb3) (by omega), World.rangeAt_setCells_same _ _ _ _ (bel_there (bel_there hNV hb2) hb3), World.rangeAt_setCells_apart (rng_bel (rng_bel hRV hb2) hb3) _ _ _ (.inl (by omega)), World.there_setCells (bel_there (bel_there (bel_there (bel_there hRt hb) bV) hb2) hb3) _ _ _, World.there_setCells (bel_there (bel_there (bel_there (bel_there hX3t hb) bV) hb2) hb3) _ _ _, World.there_setCells (bel_there (bel_there (bel_there (bel_there hX4t hb) bV) hb2) hb3) _ _ _, World.there_setCells (bel_there (bel_there (bel_there (bel_there hX5t hb) bV) hb2) hb3) _ _ _⟩ ?_; rintro V7 ⟨B7, hL7, hR7, hR7t, hth5, hth6, hth7⟩; (have k11 : V7.cell? ⟨w.heap.size, 11, none⟩ = some (.float .f64 R.r11) := by have h := hR7 11 _ rfl; rwa [Nat.zero_add] at h); (have f11 : V7.frozen? ⟨w.heap.size, 11, none⟩ = false := by have h := (hR7t 11 (by decide)).2; rwa [Nat.zero_add] at h); simp only [go_sem]) | go_values | go_skip | go_guarded | go_step | go_upon | go_back | dsimp only)
  refine at_world (fun W => Bel w W ∧ W.rangeAt w'.heap.size 0 [.float .f64 a.sm, .float .f64 a.si, .float .f64 x, .float .f64 y, .float .f64 u, .float .f64 b.sm, .float .f64 b.si, .float .f64 x2, .float .f64 y2, .float .f64 u2] ∧ W.rangeAt (w.heap.size) 0 [.int .i64 R.ra, .int .i64 R.rb, .float .f64 R.r2, .float .f64 R.r3, .float .f64 R.r4, .float .f64 R.r5, .float .f64 R.r6, .float .f64 R.r7, .float .f64 R.r8, .float .f64 R.r9, .float .f64 R.r10, .float .f64 q, .int .i64 R.ro, .float .f64 R.r13] ∧ W.there (w.heap.size + 1 + 1 + 1) 0 14 ∧ W.there (w.heap.size + 1 + 1 + 1 + 1) 0 5 ∧ W.there (w.heap.size + 1 + 1 + 1 + 1 + 1) 0 5) ⟨bl_set B7 (Nat.le_refl _), rng_set_far hL7 (by simp only; omega), rng_upd (k := 11) (v := .float .f64 q) hR7 (by simp), there_set hth5, there_set hth6, there_set hth7⟩ ?_
  clear hth5 hth6 hth7
  rintro V8 ⟨hB9, hL8, hR8, hth5, hth6, hth7⟩
  have hSA := rng_pre (l1 := [.float .f64 a.sm, .float .f64 a.si, .float .f64 x, .float .f64 y, .float .f64 u]) (l2 := [.float .f64 b.sm, .float .f64 b.si, .float .f64 x2, .float .f64 y2, .float .f64 u2]) hL8
  have hSB := rng_suf (l1 := [.float .f64 a.sm, .float .f64 a.si, .float .f64 x, .float .f64 y, .float .f64 u]) (l2 := [.float .f64 b.sm, .float .f64 b.si, .float .f64 x2, .float .f64 y2, .float .f64 u2]) hL8
  refine wp_region_outs (w0 := w) 9 rfl (fun i v => match i with | 0 => v = .agg #[.int .i64 R.ra, .int .i64 R.rb, .float .f64 R.r2, .float .f64 R.r3, .float .f64 R.r4, .float .f64 R.r5, .float .f64 R.r6, .float .f64 R.r7, .float .f64 R.r8, .float .f64 R.r9, .float .f64 R.r10, .float .f64 q, .int .i64 R.ro, .float .f64 R.r13] | 1 => v = .pointer (some ⟨w'.heap.size, 0, none⟩) | 2 => v = .agg #[.float .f64 a.sm, .float .f64 a.si, .float .f64 x, .float .f64 y, .float .f64 u] | 3 => v = .pointer (some ⟨w'.heap.size, 5, none⟩) | 4 => v = .agg #[.float .f64 b.sm, .float .f64 b.si, .float .f64 x2, .float .f64 y2, .float .f64 u2] | 8 => v = .int .i64 0 | _ => False) (so3 5 (w.heap.size + 1 + 1 + 1) 0 6 (w.heap.size + 1 + 1 + 1 + 1) 2 7 (w.heap.size + 1 + 1 + 1 + 1 + 1) 4) ?A_w2 (by kernel_rfl) (by kernel_rfl) ?hA_w2 ?hb_w2 ?hd_w2 ?hn_w2 ?hS_w2 ?hq_w2 ?hst_w2 ?ht_w2
  case hA_w2 =>
    intro s
    simp only [putL, dstO, Act.put, List.getElem?_toArray, List.getElem?_cons_zero, List.getElem?_cons_succ, Option.bind_some, List.setIfInBounds_toArray, List.set_cons_zero, List.set_cons_succ, if_true]
    all_goals exact rfl
  case hb_w2 => exact hB9
  case hd_w2 =>
    intro i b d hi h
    rcases so3_some h with ⟨rfl, rfl, rfl⟩ | ⟨rfl, rfl, rfl⟩ | ⟨rfl, rfl, rfl⟩
    all_goals exact ⟨by decide, by simp [so3], by kernel_rfl⟩
  case hn_w2 => exact so3_ne (by omega) (by omega) (by omega)
  case hS_w2 =>
    intro i b d h
    rcases so3_some h with ⟨rfl, rfl, rfl⟩ | ⟨rfl, rfl, rfl⟩ | ⟨rfl, rfl, rfl⟩
    all_goals omega
  case hq_w2 =>
    intro i o hi ho hso s hs W hb K hK
    rcases (show i = 0 ∨ i = 1 ∨ i = 2 ∨ i = 3 ∨ i = 4 ∨ i = 5 ∨ i = 6 ∨ i = 7 ∨ i = 8 by omega) with rfl | rfl | rfl | rfl | rfl | rfl | rfl | rfl | rfl
    · cases ho
      simp only [Act.put, List.setIfInBounds_toArray, List.set_cons_zero, List.set_cons_succ] at hK
      clear hs hso
      refine wp_load_mid (P := Try.prog) 43 _ rfl (w.heap.size) 0 rfl [.int .i64 R.ra, .int .i64 R.rb, .float .f64 R.r2, .float .f64 R.r3, .float .f64 R.r4, .float .f64 R.r5, .float .f64 R.r6, .float .f64 R.r7, .float .f64 R.r8, .float .f64 R.r9, .float .f64 R.r10, .float .f64 q, .int .i64 R.ro, .float .f64 R.r13] _ (Bo.rng hb hR8 (so3_far (by omega) (by omega) (by omega))) Try.underlying43 rfl (by kernel_rfl) ?_; exact hK.out _ _ rfl (bl_refl _)
    · cases ho
      simp only [Act.put, List.setIfInBounds_toArray, List.set_cons_zero, List.set_cons_succ] at hK
      clear hs hso
      go_simp
      all_goals first | with_reducible exact hK.out _ _ rfl (bl_refl _) | exact hK.out _ _ rfl (bl_refl _)
    · cases ho
      have e1 : s 1 = _ := hs 1 (by decide) (by simp [so3]) (by kernel_rfl)
      simp only [e1] at hK ⊢
      simp only [Act.put, List.setIfInBounds_toArray, List.set_cons_zero, List.set_cons_succ] at hK
      clear hs hso
      refine wp_load_mid (P := Try.prog) 45 _ rfl (w'.heap.size) 0 rfl [.float .f64 a.sm, .float .f64 a.si, .float .f64 x, .float .f64 y, .float .f64 u] _ (Bo.rng hb hSA (so3_far (by omega) (by omega) (by omega))) Try.underlying45 rfl (by kernel_rfl) ?_; exact hK.out _ _ rfl (bl_refl _)
    · cases ho
      simp only [Act.put, List.setIfInBounds_toArray, List.set_cons_zero, List.set_cons_succ] at hK
      clear hs hso
      go_simp
      all_goals first | with_reducible exact hK.out _ _ rfl (bl_refl _) | exact hK.out _ _ rfl (bl_refl _)
    · cases ho
      have e3 : s 3 = _ := hs 3 (by decide) (by simp [so3]) (by kernel_rfl)
      simp only [e3] at hK ⊢
      simp only [Act.put, List.setIfInBounds_toArray, List.set_cons_zero, List.set_cons_succ] at hK
      clear hs hso
      refine wp_load_mid (P := Try.prog) 45 _ rfl (w'.heap.size) 5 rfl [.float .f64 b.sm, .float .f64 b.si, .float .f64 x2, .float .f64 y2, .float .f64 u2] _ (Bo.rng hb hSB (so3_far (by omega) (by omega) (by omega))) Try.underlying45 rfl (by kernel_rfl) ?_; exact hK.out _ _ rfl (bl_refl _)
    · simp [so3] at hso
    · simp [so3] at hso
    · simp [so3] at hso
    · cases ho
      simp only [Act.put, List.setIfInBounds_toArray, List.set_cons_zero, List.set_cons_succ] at hK
      clear hs hso
      go_simp
      all_goals first | with_reducible exact hK.out _ _ rfl (bl_refl _) | exact hK.out _ _ rfl (bl_refl _)
  case hst_w2 =>
    intro i o b d hi ho hso s hs W hb K hK
    rcases so3_some hso with ⟨rfl, rfl, rfl⟩ | ⟨rfl, rfl, rfl⟩ | ⟨rfl, rfl, rfl⟩
    · cases ho
      have e0 : s 0 = _ := hs 0 (by decide) (by simp [so3]) (by kernel_rfl)
      simp only [e0] at hK ⊢
      have hth := hb.2.2.2 _ _ _ hth5
      refine wp_store_mid (P := Try.prog) 43 _ _ rfl _ 0 #[.int .i64 R.ra, .int .i64 R.rb, .float .f64 R.r2, .float .f64 R.r3, .float .f64 R.r4, .float .f64 R.r5, .float .f64 R.r6, .float .f64 R.r7, .float .f64 R.r8, .float .f64 R.r9, .float .f64 R.r10, .float .f64 q, .int .i64 R.ro, .float .f64 R.r13] rfl rfl hth (by kernel_rfl) (by kernel_rfl) ?_
      exact hK.out [.int .i64 R.ra, .int .i64 R.rb, .float .f64 R.r2, .float .f64 R.r3, .float .f64 R.r4, .float .f64 R.r5, .float .f64 R.r6, .float .f64 R.r7, .float .f64 R.r8, .float .f64 R.r9, .float .f64 R.r10, .float .f64 q, .int .i64 R.ro, .float .f64 R.r13] rfl hth
    · cases ho
      have e2 : s 2 = _ := hs 2 (by decide) (by simp [so3]) (by kernel_rfl)
      simp only [e2] at hK ⊢
      have hth := hb.2.2.2 _ _ _ hth6
      refine wp_store_mid (P := Try.prog) 45 _ _ rfl _ 0 #[.float .f64 a.sm, .float .f64 a.si, .float .f64 x, .float .f64 y, .float .f64 u] rfl rfl hth (by kernel_rfl) (by kernel_rfl) ?_
      exact hK.out [.float .f64 a.sm, .float .f64 a.si, .float .f64 x, .float .f64 y, .float .f64 u] rfl hth
    · cases ho
      have e4 : s 4 = _ := hs 4 (by decide) (by simp [so3]) (by kernel_rfl)
      simp only [e4] at hK ⊢
      have hth := hb.2.2.2 _ _ _ hth7
      refine wp_store_mid (P := Try.prog) 45 _ _ rfl _ 0 #[.float .f64 b.sm, .float .f64 b.si, .float .f64 x2, .float .f64 y2, .float .f64 u2] rfl rfl hth (by kernel_rfl) (by kernel_rfl) ?_
      exact hK.out [.float .f64 b.sm, .float .f64 b.si, .float .f64 x2, .float .f64 y2, .float .f64 u2] rfl hth
  case ht_w2 =>
    intro s hs W hB9 hb hout
    have e0 : s 0 = _ := hs 0 (by decide) (by simp [so3])
    have e1 : s 1 = _ := hs 1 (by decide) (by simp [so3])
    have e2 : s 2 = _ := hs 2 (by decide) (by simp [so3])
    have e3 : s 3 = _ := hs 3 (by decide) (by simp [so3])
    have e4 : s 4 = _ := hs 4 (by decide) (by simp [so3])
    have e8 : s 8 = _ := hs 8 (by decide) (by simp [so3])
    have hr5 : W.rangeAt (w.heap.size + 1 + 1 + 1) 0 [.int .i64 R.ra, .int .i64 R.rb, .float .f64 R.r2, .float .f64 R.r3, .float .f64 R.r4, .float .f64 R.r5, .float .f64 R.r6, .float .f64 R.r7, .float .f64 R.r8, .float .f64 R.r9, .float .f64 R.r10, .float .f64 q, .int .i64 R.ro, .float .f64 R.r13] := by obtain ⟨cs, g1, g2⟩ := hout 5 _ _ (by decide) (so3_at0 (by decide)); rw [e0] at g1; injection g1 with g1; have g3 := congrArg Array.toList g1; simp only [List.toList_toArray] at g3; rw [← g3] at g2; exact g2
    have hr6 : W.rangeAt (w.heap.size + 1 + 1 + 1 + 1) 0 [.float .f64 a.sm, .float .f64 a.si, .float .f64 x, .float .f64 y, .float .f64 u] := by obtain ⟨cs, g1, g2⟩ := hout 6 _ _ (by decide) (so3_at1 (by decide)); rw [e2] at g1; injection g1 with g1; have g3 := congrArg Array.toList g1; simp only [List.toList_toArray] at g3; rw [← g3] at g2; exact g2
    have hr7 : W.rangeAt (w.heap.size + 1 + 1 + 1 + 1 + 1) 0 [.float .f64 b.sm, .float .f64 b.si, .float .f64 x2, .float .f64 y2, .float .f64 u2] := by obtain ⟨cs, g1, g2⟩ := hout 7 _ _ (by decide) (so3_at2 (by decide)); rw [e4] at g1; injection g1 with g1; have g3 := congrArg Array.toList g1; simp only [List.toList_toArray] at g3; rw [← g3] at g2; exact g2
    simp only [e0, e1, e2, e3, e4, e8]
    clear hs hout e0 e1 e2 e3 e4 e8
    repeat (first | go_values | go_skip | go_guarded | go_step | go_upon | go_back | dsimp only)
    refine bodyPost_ret (results_ccct (c := 6) (d := 7) (g := 8) (r := 9) (ty := 43) (ty2 := 45) (ty3 := 45) rfl rfl (run_loadVar_mid _ (w.heap.size + 1 + 1 + 1) 0 43 [.int .i64 R.ra, .int .i64 R.rb, .float .f64 R.r2, .float .f64 R.r3, .float .f64 R.r4, .float .f64 R.r5, .float .f64 R.r6, .float .f64 R.r7, .float .f64 R.r8, .float .f64 R.r9, .float .f64 R.r10, .float .f64 q, .int .i64 R.ro, .float .f64 R.r13] _ (hr5) Try.underlying43 rfl (by kernel_rfl)) rfl (run_loadVar_mid _ (w.heap.size + 1 + 1 + 1 + 1) 0 45 [.float .f64 a.sm, .float .f64 a.si, .float .f64 x, .float .f64 y, .float .f64 u] _ (hr6) Try.underlying45 rfl (by kernel_rfl)) rfl (run_loadVar_mid _ (w.heap.size + 1 + 1 + 1 + 1 + 1) 0 45 [.float .f64 b.sm, .float .f64 b.si, .float .f64 x2, .float .f64 y2, .float .f64 u2] _ (hr7) Try.underlying45 rfl (by kernel_rfl)) rfl) rfl ⟨q, x, y, u, x2, y2, u2, hq, hx, hy, hu, hx2, hy2, hu2, rfl, hB9⟩

end Go.Proofs.Ytfohggiehbplkaa
