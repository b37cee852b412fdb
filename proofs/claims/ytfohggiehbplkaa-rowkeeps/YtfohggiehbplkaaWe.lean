/-
  What each function of package poly answers, and what the reference of its chapter answers: one contract a function, for every float: the answer stands in the relation of its formula to what was given; of the memory that was there nothing has turned.
-/
import Derived.Test.YtfohggiehbplkaaVec
import Derived.Test.YtfohggiehbplkaaWd
import Derived.Below
import Derived.WalkKit
import Derived.WalkLawsBesides
import Derived.WalkSpells
import Derived.ProofKit
import Derived.OpenShut
import Derived.Deep.RegionHeld3
namespace Go.Proofs.Ytfohggiehbplkaa
open Go.ChangeShapes Go.WideShapes Go.ChangeAt Go.RowKit
set_option linter.unusedVariables false
set_option linter.unusedSimpArgs false


set_option maxRecDepth 100000 in
set_option maxHeartbeats 4000000 in
theorem spd_no (R : RD) (a b : SD) (w : World) (hal : alB R a b = false) : Calls Try.prog 20 #[.agg #[.int .i64 R.ra, .int .i64 R.rb, .float .f64 R.r2, .float .f64 R.r3, .float .f64 R.r4, .float .f64 R.r5, .float .f64 R.r6, .float .f64 R.r7, .float .f64 R.r8, .float .f64 R.r9, .float .f64 R.r10, .float .f64 R.r11, .int .i64 R.ro, .float .f64 R.r13], .agg #[.float .f64 a.sm, .float .f64 a.si, .float .f64 a.sx, .float .f64 a.sy, .float .f64 a.ss], .agg #[.float .f64 b.sm, .float .f64 b.si, .float .f64 b.sx, .float .f64 b.sy, .float .f64 b.ss]] w fun e w' => e = .returned (.tuple #[.float .f64 0, .int .i64 200]) ∧ Bel w w' := by
  obtain ⟨hR, hRt, hA, hAt, hBb, hBbt, B0, hz0⟩ := frm0 R a b w
  go_enter Try.func20, Try.ntmps20
  repeat (first | (with_reducible show Oper.wp _ _ _ _ _ _; refine wp_load_mid (P := Try.prog) 43 _ rfl (w.heap.size) 0 rfl [.int .i64 R.ra, .int .i64 R.rb, .float .f64 R.r2, .float .f64 R.r3, .float .f64 R.r4, .float .f64 R.r5, .float .f64 R.r6, .float .f64 R.r7, .float .f64 R.r8, .float .f64 R.r9, .float .f64 R.r10, .float .f64 R.r11, .int .i64 R.ro, .float .f64 R.r13] _ (by with_reducible assumption) Try.underlying43 rfl (by kernel_rfl) ?_; simp only [go_sem]) | (with_reducible show Oper.wp _ _ _ _ _ _; refine wp_load_mid (P := Try.prog) 45 _ rfl (w.heap.size + 1) 0 rfl [.float .f64 a.sm, .float .f64 a.si, .float .f64 a.sx, .float .f64 a.sy, .float .f64 a.ss] _ (by with_reducible assumption) Try.underlying45 rfl (by kernel_rfl) ?_; simp only [go_sem]) | (with_reducible show Oper.wp _ _ _ _ _ _; refine wp_load_mid (P := Try.prog) 45 _ rfl (w.heap.size + 1 + 1) 0 rfl [.float .f64 b.sm, .float .f64 b.si, .float .f64 b.sx, .float .f64 b.sy, .float .f64 b.ss] _ (by with_reducible assumption) Try.underlying45 rfl (by kernel_rfl) ?_; simp only [go_sem]) | (go_at_call 58; (with_reducible refine (checked_w R a b _).mono ?_); rintro e w' ⟨rfl, hb⟩; rw [hal]; simp only [cond_true, cond_false]; have hN := there_new w' [.float .f64 0, .float .f64 0, .float .f64 0, .float .f64 0, .float .f64 0, .float .f64 0, .float .f64 0, .float .f64 0, .float .f64 0, .float .f64 0] 98; have B5 : Bel w' ((w'.alloc (.cells #[.float .f64 0, .float .f64 0, .float .f64 0, .float .f64 0, .float .f64 0, .float .f64 0, .float .f64 0, .float .f64 0, .float .f64 0, .float .f64 0] 98)).setCells w'.heap.size 0 [.float .f64 0, .float .f64 0, .float .f64 0, .float .f64 0, .float .f64 0, .float .f64 0, .float .f64 0, .float .f64 0, .float .f64 0, .float .f64 0]) := bel_setsJ _ _ (bl_alloc (bl_refl w') _ _) (Nat.le_refl _); have hL5 := World.rangeAt_setCells_same (w'.alloc (.cells #[.float .f64 0, .float .f64 0, .float .f64 0, .float .f64 0, .float .f64 0, .float .f64 0, .float .f64 0, .float .f64 0, .float .f64 0, .float .f64 0] 98)) w'.heap.size 0 [.float .f64 0, .float .f64 0, .float .f64 0, .float .f64 0, .float .f64 0, .float .f64 0, .float .f64 0, .float .f64 0, .float .f64 0, .float .f64 0] hN; have hz5 := hb.size) | ((with_reducible show Oper.wp _ { dst := _, op := Op.store 98 _ _, type := _, pos := _, after := _, guard := _ } _ _ _ _); refine wp_store_abs (P := Try.prog) 98 _ _ rfl (w'.heap.size) 0 #[.float .f64 0, .float .f64 0, .float .f64 0, .float .f64 0, .float .f64 0, .float .f64 0, .float .f64 0, .float .f64 0, .float .f64 0, .float .f64 0] rfl rfl hN (by kernel_rfl) (by kernel_rfl) (fun V => Bel w' V ∧ V.rangeAt w'.heap.size 0 [.float .f64 0, .float .f64 0, .float .f64 0, .float .f64 0, .float .f64 0, .float .f64 0, .float .f64 0, .float .f64 0, .float .f64 0, .float .f64 0] ∧ V.there w'.heap.size 0 10) ⟨B5, hL5, World.there_setCells hN _ _ _⟩ ?_; rintro V5 ⟨bV, hLV, hNV⟩; have hRV := rng_bel (rng_bel hR hb) bV; have BV := bl_trans (bl_trans B0 hb) bV; have hzV := bV.size; have sA := rng_bel (rng_bel hA hb) bV; have sB := rng_bel (rng_bel hBb hb) bV; clear hR hA hBb B5 hL5 hN B0; simp only [go_sem]) | go_values | go_skip | go_guarded | go_step | go_upon | go_back | dsimp only)
  refine bodyPost_ret (v := .tuple #[.float .f64 0, .int .i64 200]) (by kernel_rfl) rfl ⟨rfl, BV⟩
set_option maxRecDepth 100000 in
set_option maxHeartbeats 4000000 in
theorem spd_ok (R : RD) (a b : SD) (w : World) (oR : rok R) (oa : sok a) (ob : sok b) (hal : alB R a b = true) : Calls Try.prog 20 #[.agg #[.int .i64 R.ra, .int .i64 R.rb, .float .f64 R.r2, .float .f64 R.r3, .float .f64 R.r4, .float .f64 R.r5, .float .f64 R.r6, .float .f64 R.r7, .float .f64 R.r8, .float .f64 R.r9, .float .f64 R.r10, .float .f64 R.r11, .int .i64 R.ro, .float .f64 R.r13], .agg #[.float .f64 a.sm, .float .f64 a.si, .float .f64 a.sx, .float .f64 a.sy, .float .f64 a.ss], .agg #[.float .f64 b.sm, .float .f64 b.si, .float .f64 b.sx, .float .f64 b.sy, .float .f64 b.ss]] w fun e w' => ∃ r, isF r (spF R a b) ∧ e = .returned (.tuple #[.float .f64 r, .int .i64 0]) ∧ Bel w w' := by
  obtain ⟨hR, hRt, hA, hAt, hBb, hBbt, B0, hz0⟩ := frm0 R a b w
  go_enter Try.func20, Try.ntmps20
  repeat (first | (with_reducible show Oper.wp _ _ _ _ _ _; refine wp_load_mid (P := Try.prog) 43 _ rfl (w.heap.size) 0 rfl [.int .i64 R.ra, .int .i64 R.rb, .float .f64 R.r2, .float .f64 R.r3, .float .f64 R.r4, .float .f64 R.r5, .float .f64 R.r6, .float .f64 R.r7, .float .f64 R.r8, .float .f64 R.r9, .float .f64 R.r10, .float .f64 R.r11, .int .i64 R.ro, .float .f64 R.r13] _ (by with_reducible assumption) Try.underlying43 rfl (by kernel_rfl) ?_; simp only [go_sem]) | (with_reducible show Oper.wp _ _ _ _ _ _; refine wp_load_mid (P := Try.prog) 45 _ rfl (w.heap.size + 1) 0 rfl [.float .f64 a.sm, .float .f64 a.si, .float .f64 a.sx, .float .f64 a.sy, .float .f64 a.ss] _ (by with_reducible assumption) Try.underlying45 rfl (by kernel_rfl) ?_; simp only [go_sem]) | (with_reducible show Oper.wp _ _ _ _ _ _; refine wp_load_mid (P := Try.prog) 45 _ rfl (w.heap.size + 1 + 1) 0 rfl [.float .f64 b.sm, .float .f64 b.si, .float .f64 b.sx, .float .f64 b.sy, .float .f64 b.ss] _ (by with_reducible assumption) Try.underlying45 rfl (by kernel_rfl) ?_; simp only [go_sem]) | (go_at_call 58; (with_reducible refine (checked_w R a b _).mono ?_); rintro e w' ⟨rfl, hb⟩; rw [hal]; simp only [cond_true, cond_false]; have hN := there_new w' [.float .f64 0, .float .f64 0, .float .f64 0, .float .f64 0, .float .f64 0, .float .f64 0, .float .f64 0, .float .f64 0, .float .f64 0, .float .f64 0] 98; have B5 : Bel w' ((w'.alloc (.cells #[.float .f64 0, .float .f64 0, .float .f64 0, .float .f64 0, .float .f64 0, .float .f64 0, .float .f64 0, .float .f64 0, .float .f64 0, .float .f64 0] 98)).setCells w'.heap.size 0 [.float .f64 a.sm, .float .f64 a.si, .float .f64 a.sx, .float .f64 a.sy, .float .f64 a.ss, .float .f64 b.sm, .float .f64 b.si, .float .f64 b.sx, .float .f64 b.sy, .float .f64 b.ss]) := bel_setsJ _ _ (bl_alloc (bl_refl w') _ _) (Nat.le_refl _); have hL5 := World.rangeAt_setCells_same (w'.alloc (.cells #[.float .f64 0, .float .f64 0, .float .f64 0, .float .f64 0, .float .f64 0, .float .f64 0, .float .f64 0, .float .f64 0, .float .f64 0, .float .f64 0] 98)) w'.heap.size 0 [.float .f64 a.sm, .float .f64 a.si, .float .f64 a.sx, .float .f64 a.sy, .float .f64 a.ss, .float .f64 b.sm, .float .f64 b.si, .float .f64 b.sx, .float .f64 b.sy, .float .f64 b.ss] hN; have hz5 := hb.size) | ((with_reducible show Oper.wp _ { dst := _, op := Op.store 98 _ _, type := _, pos := _, after := _, guard := _ } _ _ _ _); refine wp_store_abs (P := Try.prog) 98 _ _ rfl (w'.heap.size) 0 #[.float .f64 a.sm, .float .f64 a.si, .float .f64 a.sx, .float .f64 a.sy, .float .f64 a.ss, .float .f64 b.sm, .float .f64 b.si, .float .f64 b.sx, .float .f64 b.sy, .float .f64 b.ss] rfl rfl hN (by kernel_rfl) (by kernel_rfl) (fun V => Bel w' V ∧ V.rangeAt w'.heap.size 0 [.float .f64 a.sm, .float .f64 a.si, .float .f64 a.sx, .float .f64 a.sy, .float .f64 a.ss, .float .f64 b.sm, .float .f64 b.si, .float .f64 b.sx, .float .f64 b.sy, .float .f64 b.ss] ∧ V.there w'.heap.size 0 10) ⟨B5, hL5, World.there_setCells hN _ _ _⟩ ?_; rintro V5 ⟨bV, hLV, hNV⟩; have hRV := rng_bel (rng_bel hR hb) bV; have BV := bl_trans (bl_trans B0 hb) bV; have hzV := bV.size; have sA := rng_bel (rng_bel hA hb) bV; have sB := rng_bel (rng_bel hBb hb) bV; clear hR hA hBb B5 hL5 hN B0; simp only [go_sem]) | (with_reducible show Oper.wp _ _ _ _ _ _; refine wp_load_mid (P := Try.prog) 98 _ rfl (w'.heap.size) 0 rfl [.float .f64 a.sm, .float .f64 a.si, .float .f64 a.sx, .float .f64 a.sy, .float .f64 a.ss, .float .f64 b.sm, .float .f64 b.si, .float .f64 b.sx, .float .f64 b.sy, .float .f64 b.ss] _ (by with_reducible assumption) Try.underlying98 rfl (by kernel_rfl) ?_; simp only [go_sem]) | (go_at_call 62; (with_reducible refine (speed_w R a b _ oR oa ob).mono ?_); rintro e w2 ⟨r, hr, rfl, hb2⟩) | go_values | go_skip | go_guarded | go_step | go_upon | go_back | dsimp only)
  refine bodyPost_ret (v := .tuple #[.float .f64 r, .int .i64 0]) (by kernel_rfl) rfl ⟨r, hr, rfl, bl_trans BV hb2⟩

set_option maxRecDepth 100000 in
set_option maxHeartbeats 4000000 in
theorem wgt_no (R : RD) (a b : SD) (w : World) (hal : alB R a b = false) : Calls Try.prog 17 #[.agg #[.int .i64 R.ra, .int .i64 R.rb, .float .f64 R.r2, .float .f64 R.r3, .float .f64 R.r4, .float .f64 R.r5, .float .f64 R.r6, .float .f64 R.r7, .float .f64 R.r8, .float .f64 R.r9, .float .f64 R.r10, .float .f64 R.r11, .int .i64 R.ro, .float .f64 R.r13], .agg #[.float .f64 a.sm, .float .f64 a.si, .float .f64 a.sx, .float .f64 a.sy, .float .f64 a.ss], .agg #[.float .f64 b.sm, .float .f64 b.si, .float .f64 b.sx, .float .f64 b.sy, .float .f64 b.ss]] w fun e w' => e = .returned (.tuple #[.float .f64 0, .int .i64 200]) ∧ Bel w w' := by
  obtain ⟨hR, hRt, hA, hAt, hBb, hBbt, B0, hz0⟩ := frm0 R a b w
  go_enter Try.func17, Try.ntmps17
  repeat (first | (with_reducible show Oper.wp _ _ _ _ _ _; refine wp_load_mid (P := Try.prog) 43 _ rfl (w.heap.size) 0 rfl [.int .i64 R.ra, .int .i64 R.rb, .float .f64 R.r2, .float .f64 R.r3, .float .f64 R.r4, .float .f64 R.r5, .float .f64 R.r6, .float .f64 R.r7, .float .f64 R.r8, .float .f64 R.r9, .float .f64 R.r10, .float .f64 R.r11, .int .i64 R.ro, .float .f64 R.r13] _ (by with_reducible assumption) Try.underlying43 rfl (by kernel_rfl) ?_; simp only [go_sem]) | (with_reducible show Oper.wp _ _ _ _ _ _; refine wp_load_mid (P := Try.prog) 45 _ rfl (w.heap.size + 1) 0 rfl [.float .f64 a.sm, .float .f64 a.si, .float .f64 a.sx, .float .f64 a.sy, .float .f64 a.ss] _ (by with_reducible assumption) Try.underlying45 rfl (by kernel_rfl) ?_; simp only [go_sem]) | (with_reducible show Oper.wp _ _ _ _ _ _; refine wp_load_mid (P := Try.prog) 45 _ rfl (w.heap.size + 1 + 1) 0 rfl [.float .f64 b.sm, .float .f64 b.si, .float .f64 b.sx, .float .f64 b.sy, .float .f64 b.ss] _ (by with_reducible assumption) Try.underlying45 rfl (by kernel_rfl) ?_; simp only [go_sem]) | (go_at_call 58; (with_reducible refine (checked_w R a b _).mono ?_); rintro e w' ⟨rfl, hb⟩; rw [hal]; simp only [cond_true, cond_false]; have hN := there_new w' [.float .f64 0, .float .f64 0, .float .f64 0, .float .f64 0, .float .f64 0, .float .f64 0, .float .f64 0, .float .f64 0, .float .f64 0, .float .f64 0] 98; have B5 : Bel w' ((w'.alloc (.cells #[.float .f64 0, .float .f64 0, .float .f64 0, .float .f64 0, .float .f64 0, .float .f64 0, .float .f64 0, .float .f64 0, .float .f64 0, .float .f64 0] 98)).setCells w'.heap.size 0 [.float .f64 0, .float .f64 0, .float .f64 0, .float .f64 0, .float .f64 0, .float .f64 0, .float .f64 0, .float .f64 0, .float .f64 0, .float .f64 0]) := bel_setsJ _ _ (bl_alloc (bl_refl w') _ _) (Nat.le_refl _); have hL5 := World.rangeAt_setCells_same (w'.alloc (.cells #[.float .f64 0, .float .f64 0, .float .f64 0, .float .f64 0, .float .f64 0, .float .f64 0, .float .f64 0, .float .f64 0, .float .f64 0, .float .f64 0] 98)) w'.heap.size 0 [.float .f64 0, .float .f64 0, .float .f64 0, .float .f64 0, .float .f64 0, .float .f64 0, .float .f64 0, .float .f64 0, .float .f64 0, .float .f64 0] hN; have hz5 := hb.size) | ((with_reducible show Oper.wp _ { dst := _, op := Op.store 98 _ _, type := _, pos := _, after := _, guard := _ } _ _ _ _); refine wp_store_abs (P := Try.prog) 98 _ _ rfl (w'.heap.size) 0 #[.float .f64 0, .float .f64 0, .float .f64 0, .float .f64 0, .float .f64 0, .float .f64 0, .float .f64 0, .float .f64 0, .float .f64 0, .float .f64 0] rfl rfl hN (by kernel_rfl) (by kernel_rfl) (fun V => Bel w' V ∧ V.rangeAt w'.heap.size 0 [.float .f64 0, .float .f64 0, .float .f64 0, .float .f64 0, .float .f64 0, .float .f64 0, .float .f64 0, .float .f64 0, .float .f64 0, .float .f64 0] ∧ V.there w'.heap.size 0 10) ⟨B5, hL5, World.there_setCells hN _ _ _⟩ ?_; rintro V5 ⟨bV, hLV, hNV⟩; have hRV := rng_bel (rng_bel hR hb) bV; have BV := bl_trans (bl_trans B0 hb) bV; have hzV := bV.size; have sA := rng_bel (rng_bel hA hb) bV; have sB := rng_bel (rng_bel hBb hb) bV; clear hR hA hBb B5 hL5 hN B0; simp only [go_sem]) | go_values | go_skip | go_guarded | go_step | go_upon | go_back | dsimp only)
  refine bodyPost_ret (v := .tuple #[.float .f64 0, .int .i64 200]) (by kernel_rfl) rfl ⟨rfl, BV⟩
set_option maxRecDepth 100000 in
set_option maxHeartbeats 4000000 in
theorem wgt_ok (R : RD) (a b : SD) (w : World) (oR : rok R) (oa : sok a) (ob : sok b) (hal : alB R a b = true) : Calls Try.prog 17 #[.agg #[.int .i64 R.ra, .int .i64 R.rb, .float .f64 R.r2, .float .f64 R.r3, .float .f64 R.r4, .float .f64 R.r5, .float .f64 R.r6, .float .f64 R.r7, .float .f64 R.r8, .float .f64 R.r9, .float .f64 R.r10, .float .f64 R.r11, .int .i64 R.ro, .float .f64 R.r13], .agg #[.float .f64 a.sm, .float .f64 a.si, .float .f64 a.sx, .float .f64 a.sy, .float .f64 a.ss], .agg #[.float .f64 b.sm, .float .f64 b.si, .float .f64 b.sx, .float .f64 b.sy, .float .f64 b.ss]] w fun e w' => ∃ r, isF r (wtF R a b) ∧ e = .returned (.tuple #[.float .f64 r, .int .i64 0]) ∧ Bel w w' := by
  obtain ⟨hR, hRt, hA, hAt, hBb, hBbt, B0, hz0⟩ := frm0 R a b w
  go_enter Try.func17, Try.ntmps17
  repeat (first | (with_reducible show Oper.wp _ _ _ _ _ _; refine wp_load_mid (P := Try.prog) 43 _ rfl (w.heap.size) 0 rfl [.int .i64 R.ra, .int .i64 R.rb, .float .f64 R.r2, .float .f64 R.r3, .float .f64 R.r4, .float .f64 R.r5, .float .f64 R.r6, .float .f64 R.r7, .float .f64 R.r8, .float .f64 R.r9, .float .f64 R.r10, .float .f64 R.r11, .int .i64 R.ro, .float .f64 R.r13] _ (by with_reducible assumption) Try.underlying43 rfl (by kernel_rfl) ?_; simp only [go_sem]) | (with_reducible show Oper.wp _ _ _ _ _ _; refine wp_load_mid (P := Try.prog) 45 _ rfl (w.heap.size + 1) 0 rfl [.float .f64 a.sm, .float .f64 a.si, .float .f64 a.sx, .float .f64 a.sy, .float .f64 a.ss] _ (by with_reducible assumption) Try.underlying45 rfl (by kernel_rfl) ?_; simp only [go_sem]) | (with_reducible show Oper.wp _ _ _ _ _ _; refine wp_load_mid (P := Try.prog) 45 _ rfl (w.heap.size + 1 + 1) 0 rfl [.float .f64 b.sm, .float .f64 b.si, .float .f64 b.sx, .float .f64 b.sy, .float .f64 b.ss] _ (by with_reducible assumption) Try.underlying45 rfl (by kernel_rfl) ?_; simp only [go_sem]) | (go_at_call 58; (with_reducible refine (checked_w R a b _).mono ?_); rintro e w' ⟨rfl, hb⟩; rw [hal]; simp only [cond_true, cond_false]; have hN := there_new w' [.float .f64 0, .float .f64 0, .float .f64 0, .float .f64 0, .float .f64 0, .float .f64 0, .float .f64 0, .float .f64 0, .float .f64 0, .float .f64 0] 98; have B5 : Bel w' ((w'.alloc (.cells #[.float .f64 0, .float .f64 0, .float .f64 0, .float .f64 0, .float .f64 0, .float .f64 0, .float .f64 0, .float .f64 0, .float .f64 0, .float .f64 0] 98)).setCells w'.heap.size 0 [.float .f64 a.sm, .float .f64 a.si, .float .f64 a.sx, .float .f64 a.sy, .float .f64 a.ss, .float .f64 b.sm, .float .f64 b.si, .float .f64 b.sx, .float .f64 b.sy, .float .f64 b.ss]) := bel_setsJ _ _ (bl_alloc (bl_refl w') _ _) (Nat.le_refl _); have hL5 := World.rangeAt_setCells_same (w'.alloc (.cells #[.float .f64 0, .float .f64 0, .float .f64 0, .float .f64 0, .float .f64 0, .float .f64 0, .float .f64 0, .float .f64 0, .float .f64 0, .float .f64 0] 98)) w'.heap.size 0 [.float .f64 a.sm, .float .f64 a.si, .float .f64 a.sx, .float .f64 a.sy, .float .f64 a.ss, .float .f64 b.sm, .float .f64 b.si, .float .f64 b.sx, .float .f64 b.sy, .float .f64 b.ss] hN; have hz5 := hb.size) | ((with_reducible show Oper.wp _ { dst := _, op := Op.store 98 _ _, type := _, pos := _, after := _, guard := _ } _ _ _ _); refine wp_store_abs (P := Try.prog) 98 _ _ rfl (w'.heap.size) 0 #[.float .f64 a.sm, .float .f64 a.si, .float .f64 a.sx, .float .f64 a.sy, .float .f64 a.ss, .float .f64 b.sm, .float .f64 b.si, .float .f64 b.sx, .float .f64 b.sy, .float .f64 b.ss] rfl rfl hN (by kernel_rfl) (by kernel_rfl) (fun V => Bel w' V ∧ V.rangeAt w'.heap.size 0 [.float .f64 a.sm, .float .f64 a.si, .float .f64 a.sx, .float .f64 a.sy, .float .f64 a.ss, .float .f64 b.sm, .float .f64 b.si, .float .f64 b.sx, .float .f64 b.sy, .float .f64 b.ss] ∧ V.there w'.heap.size 0 10) ⟨B5, hL5, World.there_setCells hN _ _ _⟩ ?_; rintro V5 ⟨bV, hLV, hNV⟩; have hRV := rng_bel (rng_bel hR hb) bV; have BV := bl_trans (bl_trans B0 hb) bV; have hzV := bV.size; have sA := rng_bel (rng_bel hA hb) bV; have sB := rng_bel (rng_bel hBb hb) bV; clear hR hA hBb B5 hL5 hN B0; simp only [go_sem]) | (with_reducible show Oper.wp _ _ _ _ _ _; refine wp_load_mid (P := Try.prog) 98 _ rfl (w'.heap.size) 0 rfl [.float .f64 a.sm, .float .f64 a.si, .float .f64 a.sx, .float .f64 a.sy, .float .f64 a.ss, .float .f64 b.sm, .float .f64 b.si, .float .f64 b.sx, .float .f64 b.sy, .float .f64 b.ss] _ (by with_reducible assumption) Try.underlying98 rfl (by kernel_rfl) ?_; simp only [go_sem]) | (go_at_call 59; (with_reducible refine (weight_w R a b _ oR oa ob).mono ?_); rintro e w2 ⟨r, hr, rfl, hb2⟩) | go_values | go_skip | go_guarded | go_step | go_upon | go_back | dsimp only)
  refine bodyPost_ret (v := .tuple #[.float .f64 r, .int .i64 0]) (by kernel_rfl) rfl ⟨r, hr, rfl, bl_trans BV hb2⟩

theorem finite_i {x X : Nat} (w : World) (hx : isF x X) : Calls Try.prog 99 #[.float .f64 x] w fun e w' => ∃ n, e = .returned (.bool (finK .f64 X)) ∧ w' = w.drewN n := by
  rw [← fin_is hx]
  exact finite_6 x w
theorem clamp_q {x X lo hi : Nat} (w : World) (hx : isF x X) (ol : okK .f64 lo) (oh : okK .f64 hi) (hl : nanK .f64 lo = false) (hh : nanK .f64 hi = false) : Calls Try.prog 100 #[.float .f64 x, .float .f64 lo, .float .f64 hi] w fun e w' => ∃ q, isF q (clK .f64 X lo hi) ∧ e = .returned (.float .f64 q) ∧ w' = w :=
  (clamp_6 x lo hi w).mono fun e w' ⟨he, hw⟩ => ⟨_, cl_isG hx ol oh hl hh, he, hw⟩

set_option maxRecDepth 100000 in
set_option maxHeartbeats 4000000 in
theorem solved_w (R : RD) (a b : SD) (w : World) (oR : rok R) (oa : sok a) (ob : sok b) (hE : nanK .f64 R.r9 = false ∧ nanK .f64 R.r10 = false) : Calls Try.prog 60 #[.agg #[.int .i64 R.ra, .int .i64 R.rb, .float .f64 R.r2, .float .f64 R.r3, .float .f64 R.r4, .float .f64 R.r5, .float .f64 R.r6, .float .f64 R.r7, .float .f64 R.r8, .float .f64 R.r9, .float .f64 R.r10, .float .f64 R.r11, .int .i64 R.ro, .float .f64 R.r13], .agg #[.float .f64 a.sm, .float .f64 a.si, .float .f64 a.sx, .float .f64 a.sy, .float .f64 a.ss, .float .f64 b.sm, .float .f64 b.si, .float .f64 b.sx, .float .f64 b.sy, .float .f64 b.ss]] w fun e w' => (okB R a b = false ∧ e = .returned (.tuple #[.float .f64 0, .bool false]) ∧ Bel w w') ∨ (okB R a b = true ∧ ∃ q, isF q (quF R a b) ∧ e = .returned (.tuple #[.float .f64 q, .bool (fiB R a b)]) ∧ Bel w w') := by
  have c1 := cmp_gt .f64
  have q1 := run_quo Try.prog
  have q2 := run_add Try.prog
  have q3 := run_sub Try.prog
  have hR : ((w.alloc (.cells #[.int .i64 R.ra, .int .i64 R.rb, .float .f64 R.r2, .float .f64 R.r3, .float .f64 R.r4, .float .f64 R.r5, .float .f64 R.r6, .float .f64 R.r7, .float .f64 R.r8, .float .f64 R.r9, .float .f64 R.r10, .float .f64 R.r11, .int .i64 R.ro, .float .f64 R.r13] 43)).alloc (.cells #[.float .f64 a.sm, .float .f64 a.si, .float .f64 a.sx, .float .f64 a.sy, .float .f64 a.ss, .float .f64 b.sm, .float .f64 b.si, .float .f64 b.sx, .float .f64 b.sy, .float .f64 b.ss] 98)).rangeAt (w.heap.size) 0 [.int .i64 R.ra, .int .i64 R.rb, .float .f64 R.r2, .float .f64 R.r3, .float .f64 R.r4, .float .f64 R.r5, .float .f64 R.r6, .float .f64 R.r7, .float .f64 R.r8, .float .f64 R.r9, .float .f64 R.r10, .float .f64 R.r11, .int .i64 R.ro, .float .f64 R.r13] := World.rangeAt_alloc (rng_new w [.int .i64 R.ra, .int .i64 R.rb, .float .f64 R.r2, .float .f64 R.r3, .float .f64 R.r4, .float .f64 R.r5, .float .f64 R.r6, .float .f64 R.r7, .float .f64 R.r8, .float .f64 R.r9, .float .f64 R.r10, .float .f64 R.r11, .int .i64 R.ro, .float .f64 R.r13] 43) _
  have hL : ((w.alloc (.cells #[.int .i64 R.ra, .int .i64 R.rb, .float .f64 R.r2, .float .f64 R.r3, .float .f64 R.r4, .float .f64 R.r5, .float .f64 R.r6, .float .f64 R.r7, .float .f64 R.r8, .float .f64 R.r9, .float .f64 R.r10, .float .f64 R.r11, .int .i64 R.ro, .float .f64 R.r13] 43)).alloc (.cells #[.float .f64 a.sm, .float .f64 a.si, .float .f64 a.sx, .float .f64 a.sy, .float .f64 a.ss, .float .f64 b.sm, .float .f64 b.si, .float .f64 b.sx, .float .f64 b.sy, .float .f64 b.ss] 98)).rangeAt (w.heap.size + 1) 0 [.float .f64 a.sm, .float .f64 a.si, .float .f64 a.sx, .float .f64 a.sy, .float .f64 a.ss, .float .f64 b.sm, .float .f64 b.si, .float .f64 b.sx, .float .f64 b.sy, .float .f64 b.ss] := by
    have h := rng_new ((w.alloc (.cells #[.int .i64 R.ra, .int .i64 R.rb, .float .f64 R.r2, .float .f64 R.r3, .float .f64 R.r4, .float .f64 R.r5, .float .f64 R.r6, .float .f64 R.r7, .float .f64 R.r8, .float .f64 R.r9, .float .f64 R.r10, .float .f64 R.r11, .int .i64 R.ro, .float .f64 R.r13] 43))) [.float .f64 a.sm, .float .f64 a.si, .float .f64 a.sx, .float .f64 a.sy, .float .f64 a.ss, .float .f64 b.sm, .float .f64 b.si, .float .f64 b.sx, .float .f64 b.sy, .float .f64 b.ss] 98
    rw [World.size_alloc] at h
    exact h
  have B0 : Bel w ((w.alloc (.cells #[.int .i64 R.ra, .int .i64 R.rb, .float .f64 R.r2, .float .f64 R.r3, .float .f64 R.r4, .float .f64 R.r5, .float .f64 R.r6, .float .f64 R.r7, .float .f64 R.r8, .float .f64 R.r9, .float .f64 R.r10, .float .f64 R.r11, .int .i64 R.ro, .float .f64 R.r13] 43)).alloc (.cells #[.float .f64 a.sm, .float .f64 a.si, .float .f64 a.sx, .float .f64 a.sy, .float .f64 a.ss, .float .f64 b.sm, .float .f64 b.si, .float .f64 b.sx, .float .f64 b.sy, .float .f64 b.ss] 98)) := bl_alloc (bl_alloc (bl_refl w) _ _) _ _
  go_enter Try.func60, Try.ntmps60
  go_wp2
  refine wp_region_mono 11 rfl (fun i W v => match i with | 0 => v = .pointer (some ⟨w.heap.size, 8, none⟩) | 1 => v = .float .f64 R.r8 | 2 => v = .agg #[.float .f64 a.sm, .float .f64 a.si, .float .f64 a.sx, .float .f64 a.sy, .float .f64 a.ss, .float .f64 b.sm, .float .f64 b.si, .float .f64 b.sx, .float .f64 b.sy, .float .f64 b.ss] | 3 => v = .agg #[.int .i64 R.ra, .int .i64 R.rb, .float .f64 R.r2, .float .f64 R.r3, .float .f64 R.r4, .float .f64 R.r5, .float .f64 R.r6, .float .f64 R.r7, .float .f64 R.r8, .float .f64 R.r9, .float .f64 R.r10, .float .f64 R.r11, .int .i64 R.ro, .float .f64 R.r13] | 4 => ∃ p, isF p (spF R a b) ∧ v = .float .f64 p | 5 => ∃ p, isF p (lkF R a b) ∧ v = .float .f64 p | 6 => v = .agg #[.float .f64 a.sm, .float .f64 a.si, .float .f64 a.sx, .float .f64 a.sy, .float .f64 a.ss, .float .f64 b.sm, .float .f64 b.si, .float .f64 b.sx, .float .f64 b.sy, .float .f64 b.ss] | 7 => v = .agg #[.int .i64 R.ra, .int .i64 R.rb, .float .f64 R.r2, .float .f64 R.r3, .float .f64 R.r4, .float .f64 R.r5, .float .f64 R.r6, .float .f64 R.r7, .float .f64 R.r8, .float .f64 R.r9, .float .f64 R.r10, .float .f64 R.r11, .int .i64 R.ro, .float .f64 R.r13] | 8 => ∃ p, isF p (wtF R a b) ∧ v = .float .f64 p | 9 => ∃ p, isF p (lkF R a b) ∧ v = .float .f64 p | 10 => ∃ p, isF p (wtF R a b) ∧ v = .float .f64 p | _ => False) ?A_so (by kernel_rfl) (by kernel_rfl) ?hA_so ?hmo_so ?hq_so ?ht_so
  case hA_so =>
    intro s
    simp only [putL, dstO, Act.put, List.getElem?_toArray, List.getElem?_cons_zero, List.getElem?_cons_succ, Option.bind_some, List.setIfInBounds_toArray, List.set_cons_zero, List.set_cons_succ, if_true]
    all_goals exact rfl
  case hmo_so =>
    intro i W W' v hi hb h
    rcases (show i = 0 ∨ i = 1 ∨ i = 2 ∨ i = 3 ∨ i = 4 ∨ i = 5 ∨ i = 6 ∨ i = 7 ∨ i = 8 ∨ i = 9 ∨ i = 10 by omega) with rfl | rfl | rfl | rfl | rfl | rfl | rfl | rfl | rfl | rfl | rfl
    all_goals exact h
  case hq_so =>
    intro i o hi ho s W hs hb K hK
    have q3 := run_sub Try.prog; have kb : W.cell? ⟨w.heap.size, 8, none⟩ = some (.float .f64 R.r8) := by have h := (rng_bel hR hb) 8 _ rfl; rwa [Nat.zero_add] at h
    rcases (show i = 0 ∨ i = 1 ∨ i = 2 ∨ i = 3 ∨ i = 4 ∨ i = 5 ∨ i = 6 ∨ i = 7 ∨ i = 8 ∨ i = 9 ∨ i = 10 by omega) with rfl | rfl | rfl | rfl | rfl | rfl | rfl | rfl | rfl | rfl | rfl
    · cases ho
      simp only [Act.put, List.setIfInBounds_toArray, List.set_cons_zero, List.set_cons_succ] at hK
      clear hs
      go_simp
      all_goals first | with_reducible exact hK.out _ _ rfl (bl_refl _) | exact hK.out _ _ rfl (bl_refl _)
    · cases ho
      have e0 : s 0 = _ := hs 0 (by decide) (by kernel_rfl)
      simp only [e0] at hK ⊢
      simp only [Act.put, List.setIfInBounds_toArray, List.set_cons_zero, List.set_cons_succ] at hK
      clear hs
      go_simp
      all_goals first | with_reducible exact hK.out _ _ rfl (bl_refl _) | exact hK.out _ _ rfl (bl_refl _)
    · cases ho
      simp only [Act.put, List.setIfInBounds_toArray, List.set_cons_zero, List.set_cons_succ] at hK
      clear hs
      refine wp_load_mid (P := Try.prog) 98 _ rfl (w.heap.size + 1) 0 rfl [.float .f64 a.sm, .float .f64 a.si, .float .f64 a.sx, .float .f64 a.sy, .float .f64 a.ss, .float .f64 b.sm, .float .f64 b.si, .float .f64 b.sx, .float .f64 b.sy, .float .f64 b.ss] _ (rng_bel hL hb) Try.underlying98 rfl (by kernel_rfl) ?_; exact hK.out _ _ rfl (bl_refl _)
    · cases ho
      simp only [Act.put, List.setIfInBounds_toArray, List.set_cons_zero, List.set_cons_succ] at hK
      clear hs
      refine wp_load_mid (P := Try.prog) 43 _ rfl (w.heap.size) 0 rfl [.int .i64 R.ra, .int .i64 R.rb, .float .f64 R.r2, .float .f64 R.r3, .float .f64 R.r4, .float .f64 R.r5, .float .f64 R.r6, .float .f64 R.r7, .float .f64 R.r8, .float .f64 R.r9, .float .f64 R.r10, .float .f64 R.r11, .int .i64 R.ro, .float .f64 R.r13] _ (rng_bel hR hb) Try.underlying43 rfl (by kernel_rfl) ?_; exact hK.out _ _ rfl (bl_refl _)
    · cases ho
      have e2 : s 2 = _ := hs 2 (by decide) (by kernel_rfl)
      have e3 : s 3 = _ := hs 3 (by decide) (by kernel_rfl)
      simp only [e2, e3] at hK ⊢
      simp only [Act.put, List.setIfInBounds_toArray, List.set_cons_zero, List.set_cons_succ] at hK
      clear hs
      go_simp
      all_goals (try go_wp2_with (first | (go_at_call 62; (with_reducible refine (speed_w R a b _ oR oa ob).mono ?_); rintro e w' ⟨r, hr, rfl, hb1⟩)))
      all_goals first | with_reducible exact hK.out _ _ ⟨_, hr, rfl⟩ hb1 | exact hK.out _ _ ⟨_, hr, rfl⟩ hb1 | with_reducible exact hK.out _ _ rfl (bl_refl _) | exact hK.out _ _ rfl (bl_refl _)
    · cases ho
      have e1 : s 1 = _ := hs 1 (by decide) (by kernel_rfl)
      obtain ⟨p4, h4, e4⟩ := hs 4 (by decide) (by kernel_rfl)
      simp only [e1, e4] at hK ⊢
      simp only [Act.put, List.setIfInBounds_toArray, List.set_cons_zero, List.set_cons_succ] at hK
      clear hs
      go_simp
      all_goals first | with_reducible exact hK.out _ _ ⟨_, o_is _ (isF_r oR.2.2.2.2.2.2.1) h4, rfl⟩ (by first | exact bl_refl _ | exact bl_drewN (bl_refl _) _ | exact bl_drew (bl_refl _)) | exact hK.out _ _ ⟨_, o_is _ (isF_r oR.2.2.2.2.2.2.1) h4, rfl⟩ (by first | exact bl_refl _ | exact bl_drewN (bl_refl _) _ | exact bl_drew (bl_refl _)) | with_reducible exact hK.out _ _ rfl (bl_refl _) | exact hK.out _ _ rfl (bl_refl _)
    · cases ho
      simp only [Act.put, List.setIfInBounds_toArray, List.set_cons_zero, List.set_cons_succ] at hK
      clear hs
      refine wp_load_mid (P := Try.prog) 98 _ rfl (w.heap.size + 1) 0 rfl [.float .f64 a.sm, .float .f64 a.si, .float .f64 a.sx, .float .f64 a.sy, .float .f64 a.ss, .float .f64 b.sm, .float .f64 b.si, .float .f64 b.sx, .float .f64 b.sy, .float .f64 b.ss] _ (rng_bel hL hb) Try.underlying98 rfl (by kernel_rfl) ?_; exact hK.out _ _ rfl (bl_refl _)
    · cases ho
      simp only [Act.put, List.setIfInBounds_toArray, List.set_cons_zero, List.set_cons_succ] at hK
      clear hs
      refine wp_load_mid (P := Try.prog) 43 _ rfl (w.heap.size) 0 rfl [.int .i64 R.ra, .int .i64 R.rb, .float .f64 R.r2, .float .f64 R.r3, .float .f64 R.r4, .float .f64 R.r5, .float .f64 R.r6, .float .f64 R.r7, .float .f64 R.r8, .float .f64 R.r9, .float .f64 R.r10, .float .f64 R.r11, .int .i64 R.ro, .float .f64 R.r13] _ (rng_bel hR hb) Try.underlying43 rfl (by kernel_rfl) ?_; exact hK.out _ _ rfl (bl_refl _)
    · cases ho
      have e6 : s 6 = _ := hs 6 (by decide) (by kernel_rfl)
      have e7 : s 7 = _ := hs 7 (by decide) (by kernel_rfl)
      simp only [e6, e7] at hK ⊢
      simp only [Act.put, List.setIfInBounds_toArray, List.set_cons_zero, List.set_cons_succ] at hK
      clear hs
      go_simp
      all_goals (try go_wp2_with (first | (go_at_call 59; (with_reducible refine (weight_w R a b _ oR oa ob).mono ?_); rintro e w' ⟨r, hr, rfl, hb1⟩)))
      all_goals first | with_reducible exact hK.out _ _ ⟨_, hr, rfl⟩ hb1 | exact hK.out _ _ ⟨_, hr, rfl⟩ hb1 | with_reducible exact hK.out _ _ rfl (bl_refl _) | exact hK.out _ _ rfl (bl_refl _)
    · cases ho
      obtain ⟨p5, h5, e5⟩ := hs 5 (by decide) (by kernel_rfl)
      simp only [e5] at hK ⊢
      simp only [Act.put, List.setIfInBounds_toArray, List.set_cons_zero, List.set_cons_succ] at hK
      clear hs
      go_simp
      all_goals first | with_reducible exact hK.out _ _ ⟨_, h5, rfl⟩ (bl_refl _) | exact hK.out _ _ ⟨_, h5, rfl⟩ (bl_refl _) | with_reducible exact hK.out _ _ rfl (bl_refl _) | exact hK.out _ _ rfl (bl_refl _)
    · cases ho
      obtain ⟨p8, h8, e8⟩ := hs 8 (by decide) (by kernel_rfl)
      simp only [e8] at hK ⊢
      simp only [Act.put, List.setIfInBounds_toArray, List.set_cons_zero, List.set_cons_succ] at hK
      clear hs
      go_simp
      all_goals first | with_reducible exact hK.out _ _ ⟨_, h8, rfl⟩ (bl_refl _) | exact hK.out _ _ ⟨_, h8, rfl⟩ (bl_refl _) | with_reducible exact hK.out _ _ rfl (bl_refl _) | exact hK.out _ _ rfl (bl_refl _)
  case ht_so =>
    intro s W hs hb
    have e0 : s 0 = _ := hs 0 (by decide)
    have e1 : s 1 = _ := hs 1 (by decide)
    have e2 : s 2 = _ := hs 2 (by decide)
    have e3 : s 3 = _ := hs 3 (by decide)
    obtain ⟨p4, h4, e4⟩ := hs 4 (by decide)
    obtain ⟨p5, h5, e5⟩ := hs 5 (by decide)
    have e6 : s 6 = _ := hs 6 (by decide)
    have e7 : s 7 = _ := hs 7 (by decide)
    obtain ⟨p8, h8, e8⟩ := hs 8 (by decide)
    obtain ⟨p9, h9, e9⟩ := hs 9 (by decide)
    obtain ⟨p10, h10, e10⟩ := hs 10 (by decide)
    simp only [e0, e1, e2, e3, e4, e5, e6, e7, e8, e9, e10]
    clear hs e0 e1 e2 e3 e4 e5 e6 e7 e8 e9 e10
    have B := bl_trans B0 hb
    have hRW := rng_bel hR hb
    have k9 : W.cell? ⟨w.heap.size, 9, none⟩ = some (.float .f64 R.r9) := by have h := hRW 9 _ rfl; rwa [Nat.zero_add] at h
    have k10 : W.cell? ⟨w.heap.size, 10, none⟩ = some (.float .f64 R.r10) := by have h := hRW 10 _ rfl; rwa [Nat.zero_add] at h
    have k11 : W.cell? ⟨w.heap.size, 11, none⟩ = some (.float .f64 R.r11) := by have h := hRW 11 _ rfl; rwa [Nat.zero_add] at h
    clear hR hL hRW hb B0
    cases g0 : ltK .f64 0 p10
    · have eo : okB R a b = false := by unfold okB; rw [← lt0_is h10]; simp [g0]
      go_wp2
      refine bodyPost_ret (v := .tuple #[.float .f64 0, .bool false]) (by kernel_rfl) rfl (.inl ⟨eo, rfl, by repeat (first | exact bl_refl _ | assumption | apply bl_drewN | apply bl_drew | apply bl_alloc | refine bl_set ?_ (by simp <;> omega) | refine bl_trans ?_ (by assumption))⟩)
    cases g1 : finK .f64 (wtF R a b)
    · have eo : okB R a b = false := by unfold okB; rw [← lt0_is h10]; simp [g0, g1]
      go_wp2_with (first | (go_at_call 99; (with_reducible refine (finite_i _ (h10)).mono ?_); rintro e w' ⟨n, rfl, rfl⟩; rw [g1]))
      refine bodyPost_ret (v := .tuple #[.float .f64 0, .bool false]) (by kernel_rfl) rfl (.inl ⟨eo, rfl, by repeat (first | exact bl_refl _ | assumption | apply bl_drewN | apply bl_drew | apply bl_alloc | refine bl_set ?_ (by simp <;> omega) | refine bl_trans ?_ (by assumption))⟩)
    cases g2 : finK .f64 (lkF R a b)
    · have eo : okB R a b = false := by unfold okB; rw [← lt0_is h10]; simp [g0, g1, g2]
      go_wp2_with (first | (go_at_call 99; (with_reducible refine (finite_i _ (h10)).mono ?_); rintro e w' ⟨n, rfl, rfl⟩; rw [g1]) | (go_at_call 99; (with_reducible refine (finite_i _ (h9)).mono ?_); rintro e w' ⟨n, rfl, rfl⟩; rw [g2]))
      refine bodyPost_ret (v := .tuple #[.float .f64 0, .bool false]) (by kernel_rfl) rfl (.inl ⟨eo, rfl, by repeat (first | exact bl_refl _ | assumption | apply bl_drewN | apply bl_drew | apply bl_alloc | refine bl_set ?_ (by simp <;> omega) | refine bl_trans ?_ (by assumption))⟩)
    cases g3 : finK .f64 (quF R a b)
    · have eo : okB R a b = true := by unfold okB; rw [← lt0_is h10]; simp [g0, g1, g2]
      have ef : fiB R a b = false := by unfold fiB; simp [g3]
      go_wp2_with (first | (go_at_call 99; (with_reducible refine (finite_i _ (h10)).mono ?_); rintro e w' ⟨n, rfl, rfl⟩; rw [g1]) | (go_at_call 99; (with_reducible refine (finite_i _ (h9)).mono ?_); rintro e w' ⟨n, rfl, rfl⟩; rw [g2]) | (go_at_call 100; refine (clamp_q _ (o_is _ (isF_r oR.2.2.2.2.2.2.2.2.2.1) (o_is _ h9 h10)) oR.2.2.2.2.2.2.2.1 oR.2.2.2.2.2.2.2.2.1 hE.1 hE.2).mono ?_; rintro e w' ⟨q, hq0, rfl, rfl⟩; have hq : isF q (quF R a b) := hq0; clear hq0) | (go_at_call 99; (with_reducible refine (finite_i _ (hq)).mono ?_); rintro e w' ⟨n, rfl, rfl⟩; rw [g3]))
      refine bodyPost_ret (v := .tuple #[.float .f64 q, .bool false]) (by kernel_rfl) rfl (.inr ⟨eo, q, hq, by rw [ef], by repeat (first | exact bl_refl _ | assumption | apply bl_drewN | apply bl_drew | apply bl_alloc | refine bl_set ?_ (by simp <;> omega) | refine bl_trans ?_ (by assumption))⟩)
    cases g4 : finK .f64 (dfF R a b)
    · have eo : okB R a b = true := by unfold okB; rw [← lt0_is h10]; simp [g0, g1, g2]
      have ef : fiB R a b = false := by unfold fiB; simp [g3, g4]
      go_wp2_with (first | (go_at_call 99; (with_reducible refine (finite_i _ (h10)).mono ?_); rintro e w' ⟨n, rfl, rfl⟩; rw [g1]) | (go_at_call 99; (with_reducible refine (finite_i _ (h9)).mono ?_); rintro e w' ⟨n, rfl, rfl⟩; rw [g2]) | (go_at_call 100; refine (clamp_q _ (o_is _ (isF_r oR.2.2.2.2.2.2.2.2.2.1) (o_is _ h9 h10)) oR.2.2.2.2.2.2.2.1 oR.2.2.2.2.2.2.2.2.1 hE.1 hE.2).mono ?_; rintro e w' ⟨q, hq0, rfl, rfl⟩; have hq : isF q (quF R a b) := hq0; clear hq0) | (go_at_call 99; (with_reducible refine (finite_i _ (hq)).mono ?_); rintro e w' ⟨n, rfl, rfl⟩; rw [g3]) | (go_at_call 99; refine (finite_i (X := dfF R a b) _ (o_is _ hq (isF_r oR.2.2.2.2.2.2.2.2.2.1))).mono ?_; rintro e w' ⟨n, rfl, rfl⟩; rw [g4]))
      refine bodyPost_ret (v := .tuple #[.float .f64 q, .bool false]) (by kernel_rfl) rfl (.inr ⟨eo, q, hq, by rw [ef], by repeat (first | exact bl_refl _ | assumption | apply bl_drewN | apply bl_drew | apply bl_alloc | refine bl_set ?_ (by simp <;> omega) | refine bl_trans ?_ (by assumption))⟩)
    have eo : okB R a b = true := by unfold okB; rw [← lt0_is h10]; simp [g0, g1, g2]
    have ef : fiB R a b = true := by unfold fiB; simp [g3, g4]
    go_wp2_with (first | (go_at_call 99; (with_reducible refine (finite_i _ (h10)).mono ?_); rintro e w' ⟨n, rfl, rfl⟩; rw [g1]) | (go_at_call 99; (with_reducible refine (finite_i _ (h9)).mono ?_); rintro e w' ⟨n, rfl, rfl⟩; rw [g2]) | (go_at_call 100; refine (clamp_q _ (o_is _ (isF_r oR.2.2.2.2.2.2.2.2.2.1) (o_is _ h9 h10)) oR.2.2.2.2.2.2.2.1 oR.2.2.2.2.2.2.2.2.1 hE.1 hE.2).mono ?_; rintro e w' ⟨q, hq0, rfl, rfl⟩; have hq : isF q (quF R a b) := hq0; clear hq0) | (go_at_call 99; (with_reducible refine (finite_i _ (hq)).mono ?_); rintro e w' ⟨n, rfl, rfl⟩; rw [g3]) | (go_at_call 99; refine (finite_i (X := dfF R a b) _ (o_is _ hq (isF_r oR.2.2.2.2.2.2.2.2.2.1))).mono ?_; rintro e w' ⟨n, rfl, rfl⟩; rw [g4]))
    refine bodyPost_ret (v := .tuple #[.float .f64 q, .bool true]) (by kernel_rfl) rfl (.inr ⟨eo, q, hq, by rw [ef], by repeat (first | exact bl_refl _ | assumption | apply bl_drewN | apply bl_drew | apply bl_alloc | refine bl_set ?_ (by simp <;> omega) | refine bl_trans ?_ (by assumption))⟩)


end Go.Proofs.Ytfohggiehbplkaa
