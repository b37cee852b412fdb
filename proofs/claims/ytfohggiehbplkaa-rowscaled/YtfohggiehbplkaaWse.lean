/-
  What each function of package poly answers, and what the reference of its chapter answers: one contract a function, for every float: the answer stands in the relation of its formula to what was given; of the memory that was there nothing has turned.
-/
import Derived.Test.YtfohggiehbplkaaVec
import Derived.Test.YtfohggiehbplkaaWsi
import Derived.Below
import Derived.WalkKit
import Derived.WalkLawsBesides
import Derived.WalkSpells
import Derived.ProofKit
import Derived.OpenShut
import Derived.Deep.RegionHeld3
namespace Go.Proofs.Ytfohggiehbplkaa
open Go.ChangeShapes Go.WideShapes Go.ChangeAt Go.RowKit
set_option linter.unusedVariables false
set_option linter.unusedSimpArgs false


theorem tmod_in (a : Int) (n : Nat) (h : 0 < n) : -(n : Int) < Int.tmod a n ∧ Int.tmod a n < (n : Int) := by
  refine ⟨?_, ?_⟩
  · rcases Int.le_total 0 a with h' | h'
    · have := Int.tmod_nonneg (n : Int) h'
      omega
    · have h1 := Int.tmod_nonneg (n : Int) (show (0 : Int) ≤ -a by omega)
      have h2 := Int.tmod_lt_of_pos (-a) (show (0 : Int) < (n : Int) by omega)
      rw [Int.neg_tmod] at h1 h2
      omega
  · exact Int.tmod_lt_of_pos a (by omega)def V20 (p : Int) (T : RD) (a b A B : SD) (q' uu0 y1 uu3 uu4 v2 v5 : Nat) (j : Nat) (v : Value) : Prop := match j with | 0 => v = .agg #[.int .i64 T.ra, .int .i64 T.rb, .float .f64 T.r2, .float .f64 T.r3, .float .f64 T.r4, .float .f64 T.r5, .float .f64 T.r6, .float .f64 T.r7, .float .f64 T.r8, .float .f64 T.r9, .float .f64 T.r10, .float .f64 T.r11, .int .i64 T.ro, .float .f64 T.r13] | 1 => v = .agg #[.float .f64 a.sm, .float .f64 a.si, .float .f64 a.sx, .float .f64 a.sy, .float .f64 a.ss] | 2 => v = .float .f64 (pw p) | 3 => v = .agg #[.float .f64 A.sm, .float .f64 A.si, .float .f64 A.sx, .float .f64 A.sy, .float .f64 A.ss] | 4 => v = .agg #[.float .f64 b.sm, .float .f64 b.si, .float .f64 b.sx, .float .f64 b.sy, .float .f64 b.ss] | 5 => v = .float .f64 (pw p) | 6 => v = .agg #[.float .f64 B.sm, .float .f64 B.si, .float .f64 B.sx, .float .f64 B.sy, .float .f64 B.ss] | 7 => v = .tuple #[.agg #[.int .i64 T.ra, .int .i64 T.rb, .float .f64 T.r2, .float .f64 T.r3, .float .f64 T.r4, .float .f64 T.r5, .float .f64 T.r6, .float .f64 T.r7, .float .f64 T.r8, .float .f64 T.r9, .float .f64 T.r10, .float .f64 q', .int .i64 T.ro, .float .f64 T.r13], .agg #[.float .f64 A.sm, .float .f64 A.si, .float .f64 uu0, .float .f64 y1, .float .f64 v2], .agg #[.float .f64 B.sm, .float .f64 B.si, .float .f64 uu3, .float .f64 uu4, .float .f64 v5], .int .i64 0] | 8 => v = .tuple #[.agg #[.int .i64 T.ra, .int .i64 T.rb, .float .f64 T.r2, .float .f64 T.r3, .float .f64 T.r4, .float .f64 T.r5, .float .f64 T.r6, .float .f64 T.r7, .float .f64 T.r8, .float .f64 T.r9, .float .f64 T.r10, .float .f64 q', .int .i64 T.ro, .float .f64 T.r13], .agg #[.float .f64 A.sm, .float .f64 A.si, .float .f64 uu0, .float .f64 y1, .float .f64 v2], .agg #[.float .f64 B.sm, .float .f64 B.si, .float .f64 uu3, .float .f64 uu4, .float .f64 v5], .int .i64 0] | 9 => v = .agg #[.int .i64 T.ra, .int .i64 T.rb, .float .f64 T.r2, .float .f64 T.r3, .float .f64 T.r4, .float .f64 T.r5, .float .f64 T.r6, .float .f64 T.r7, .float .f64 T.r8, .float .f64 T.r9, .float .f64 T.r10, .float .f64 q', .int .i64 T.ro, .float .f64 T.r13] | 10 => v = .agg #[.float .f64 A.sm, .float .f64 A.si, .float .f64 uu0, .float .f64 y1, .float .f64 v2] | 11 => v = .agg #[.float .f64 B.sm, .float .f64 B.si, .float .f64 uu3, .float .f64 uu4, .float .f64 v5] | 12 => v = .int .i64 0 | 13 => True | 14 => True | 15 => True | 16 => True | 17 => True | 18 => True | 19 => v = .int .i64 0 | _ => True
theorem rng_sub23 {W : World} {b : Nat} {v0 v1 v2 v3 v4 : Value} (h : W.rangeAt b 0 [v0, v1, v2, v3, v4]) : W.rangeAt b 2 [v2, v3] := fun j v hj => by
  have h9 := h (2 + j) v (by rw [Nat.add_comm]; match j, hj with | 0, hj => exact hj | 1, hj => exact hj)
  rwa [Nat.zero_add] at h9

set_option maxRecDepth 100000 in
set_option maxHeartbeats 32000000 in
theorem rsc_w (R : RD) (a b : SD) (i : Int) (w : World) (oR : rok R) (oa : sok a) (ob : sok b) : Calls Try.prog 6 #[.agg #[.int .i64 R.ra, .int .i64 R.rb, .float .f64 R.r2, .float .f64 R.r3, .float .f64 R.r4, .float .f64 R.r5, .float .f64 R.r6, .float .f64 R.r7, .float .f64 R.r8, .float .f64 R.r9, .float .f64 R.r10, .float .f64 R.r11, .int .i64 R.ro, .float .f64 R.r13], .agg #[.float .f64 a.sm, .float .f64 a.si, .float .f64 a.sx, .float .f64 a.sy, .float .f64 a.ss], .agg #[.float .f64 b.sm, .float .f64 b.si, .float .f64 b.sx, .float .f64 b.sy, .float .f64 b.ss], .int .i64 i] w fun e w' => e = .returned (.bool true) ∧ Bel w w' := by
  obtain ⟨hR, hRt, hA, hAt, hBb, hBbt, BB, hz0⟩ := frm0 R a b w
  clear hRt hAt hBbt hz0
  obtain ⟨t1, t2⟩ := tmod_in i 9 (by omega)
  rw [show ((9 : Nat) : Int) = 9 from rfl] at t1 t2
  obtain ⟨p, ep2⟩ : ∃ p, Int.tmod i 9 = p := ⟨_, rfl⟩
  rw [ep2] at t1 t2
  have hp0 : -8 ≤ p := by omega
  have hp9 : p ≤ 8 := by omega
  clear t1 t2
  have ep1 : IntKind.wrap .i64 p = p := by rw [IntKind.wrap_i64]; omega
  have ce := cmp_eq .f64
  have us_al : UsP R a b → alB R a b = true := fun h => by unfold alB; rw [h.may, (us_st h oa ob).1, (us_st h oa ob).2]; rfl
  go_enter Try.func6, Try.ntmps6
  repeat (first | (with_reducible show Oper.wp _ _ _ _ _ _; refine wp_load_mid (P := Try.prog) 43 _ rfl (w.heap.size) 0 rfl [.int .i64 R.ra, .int .i64 R.rb, .float .f64 R.r2, .float .f64 R.r3, .float .f64 R.r4, .float .f64 R.r5, .float .f64 R.r6, .float .f64 R.r7, .float .f64 R.r8, .float .f64 R.r9, .float .f64 R.r10, .float .f64 R.r11, .int .i64 R.ro, .float .f64 R.r13] _ (by with_reducible assumption) Try.underlying43 rfl (by kernel_rfl) ?_; simp only [go_sem]) | (with_reducible show Oper.wp _ _ _ _ _ _; refine wp_load_mid (P := Try.prog) 45 _ rfl (w.heap.size + 1) 0 rfl [.float .f64 a.sm, .float .f64 a.si, .float .f64 a.sx, .float .f64 a.sy, .float .f64 a.ss] _ (by with_reducible assumption) Try.underlying45 rfl (by kernel_rfl) ?_; simp only [go_sem]) | (with_reducible show Oper.wp _ _ _ _ _ _; refine wp_load_mid (P := Try.prog) 45 _ rfl (w.heap.size + 1 + 1) 0 rfl [.float .f64 b.sm, .float .f64 b.si, .float .f64 b.sx, .float .f64 b.sy, .float .f64 b.ss] _ (by with_reducible assumption) Try.underlying45 rfl (by kernel_rfl) ?_; simp only [go_sem]) | (go_at_call 9; refine (alive20 _).mono ?_; rintro e u0 ⟨rfl, bal⟩; replace hR := rng_bel hR bal; replace hA := rng_bel hA bal; replace hBb := rng_bel hBb bal; replace BB := bl_trans BB bal; clear bal) | (go_at_call 16; (with_reducible refine (usuals_w R a b _ oR oa ob).mono ?_); rintro e u1 ⟨uu, hu, rfl, b1⟩; replace hR := rng_bel hR b1; replace hA := rng_bel hA b1; replace hBb := rng_bel hBb b1; replace BB := bl_trans BB b1; clear b1; rcases (show uu = false ∨ (uu = true ∧ Mk 1) by cases uu <;> simp [Mk]) with rfl | ⟨rfl, mk1⟩; rotate_left) | go_values | go_skip | go_guarded | go_step | go_upon | go_back | dsimp only)
  rotate_left
  · repeat (first | (with_reducible show Oper.wp _ _ _ _ _ _; refine wp_load_mid (P := Try.prog) 43 _ rfl (w.heap.size) 0 rfl [.int .i64 R.ra, .int .i64 R.rb, .float .f64 R.r2, .float .f64 R.r3, .float .f64 R.r4, .float .f64 R.r5, .float .f64 R.r6, .float .f64 R.r7, .float .f64 R.r8, .float .f64 R.r9, .float .f64 R.r10, .float .f64 R.r11, .int .i64 R.ro, .float .f64 R.r13] _ (by with_reducible assumption) Try.underlying43 rfl (by kernel_rfl) ?_; simp only [go_sem]) | (with_reducible show Oper.wp _ _ _ _ _ _; refine wp_load_mid (P := Try.prog) 45 _ rfl (w.heap.size + 1) 0 rfl [.float .f64 a.sm, .float .f64 a.si, .float .f64 a.sx, .float .f64 a.sy, .float .f64 a.ss] _ (by with_reducible assumption) Try.underlying45 rfl (by kernel_rfl) ?_; simp only [go_sem]) | (with_reducible show Oper.wp _ _ _ _ _ _; refine wp_load_mid (P := Try.prog) 45 _ rfl (w.heap.size + 1 + 1) 0 rfl [.float .f64 b.sm, .float .f64 b.si, .float .f64 b.sx, .float .f64 b.sy, .float .f64 b.ss] _ (by with_reducible assumption) Try.underlying45 rfl (by kernel_rfl) ?_; simp only [go_sem]) | (go_at_call 9; refine (alive20 _).mono ?_; rintro e u0 ⟨rfl, bal⟩; replace hR := rng_bel hR bal; replace hA := rng_bel hA bal; replace hBb := rng_bel hBb bal; replace BB := bl_trans BB bal; clear bal) | (go_at_call 16; (with_reducible refine (usuals_w R a b _ oR oa ob).mono ?_); rintro e u1 ⟨uu, hu, rfl, b1⟩; replace hR := rng_bel hR b1; replace hA := rng_bel hA b1; replace hBb := rng_bel hBb b1; replace BB := bl_trans BB b1; clear b1; rcases (show uu = false ∨ (uu = true ∧ Mk 1) by cases uu <;> simp [Mk]) with rfl | ⟨rfl, mk1⟩; rotate_left) | go_values | go_skip | go_guarded | go_step | go_upon | go_back | dsimp only)
    go_ret
    exact ⟨rfl, BB⟩
  have US := hu rfl
  clear hu
  have UN := us_n US oR oa ob
  have hal := us_al US
  obtain ⟨T, A, B, sp, sq, wp, wm, wq, q, qm, qn, q', v0, v1, v2, v3, v4, v5, uu0, y1, uu3, uu4, mr11, nr11, mr9, nr9, mr10, nr10, k⟩ := pk_of hp0 hp9 US UN oR oa ob hal
  clear US UN
  have xfr6 := fun W => run_bits .mul (.inl rfl) 24 k.fr6 W
  have xfr7 := fun W => run_bits .mul (.inl rfl) 24 k.fr7 W
  have xfr8 := fun W => run_bits .mul (.inl rfl) 24 k.fr8 W
  have xfr11a := fun W => run_bits .mul (.inl rfl) 24 k.fr11a W
  have xfr11b := fun W => run_bits .mul (.inl rfl) 24 k.fr11b W
  have xfr11 := fun W => run_bits .mul (.inl rfl) 24 k.fr11 W
  have xfr9a := fun W => run_bits .mul (.inl rfl) 24 k.fr9a W
  have xfr9b := fun W => run_bits .mul (.inl rfl) 24 k.fr9b W
  have xfr9 := fun W => run_bits .mul (.inl rfl) 24 k.fr9 W
  have xfr10a := fun W => run_bits .mul (.inl rfl) 24 k.fr10a W
  have xfr10b := fun W => run_bits .mul (.inl rfl) 24 k.fr10b W
  have xfr10 := fun W => run_bits .mul (.inl rfl) 24 k.fr10 W
  have xgS := fun W => run_bits .mul (.inl rfl) 24 k.gS W
  have xgW := fun W => run_bits .quo (.inr rfl) 24 k.gW W
  have xgX := fun W => run_bits .quo (.inr rfl) 24 k.gX W
  have xgq1 := fun W => run_bits .mul (.inl rfl) 24 k.gq1 W
  have xgq2 := fun W => run_bits .mul (.inl rfl) 24 k.gq2 W
  have xgq3 := fun W => run_bits .mul (.inl rfl) 24 k.gq3 W
  have hLA := k.LA; have hLB := k.LB; have hS1 := k.S1; have hS2 := k.S2; have hW1 := k.W1; have hW2 := k.W2; have hO1 := k.O1; have hO2 := k.O2
  have esq := k.esq; have ewq := k.ewq; have eqp := k.eqp; have eu0 := k.eu0; have eu1 := k.eu1; have eu3 := k.eu3; have eu4 := k.eu4; have ev2 := k.ev2; have ev5 := k.ev5
  have hs1 := fun W => scale_x _ _ _ _ _ k.gv0 k.gv1 W
  have hs2 := fun W => scale_x _ _ _ _ _ k.gv3 k.gv4 W
  have tt := there_new u1 [.int .i64 0, .int .i64 0, .float .f64 0, .float .f64 0, .float .f64 0, .float .f64 0, .float .f64 0, .float .f64 0, .float .f64 0, .float .f64 0, .float .f64 0, .float .f64 0, .int .i64 0, .float .f64 0] 43
  have tB : Bel w (u1.alloc (.cells #[.int .i64 0, .int .i64 0, .float .f64 0, .float .f64 0, .float .f64 0, .float .f64 0, .float .f64 0, .float .f64 0, .float .f64 0, .float .f64 0, .float .f64 0, .float .f64 0, .int .i64 0, .float .f64 0] 43)) := bl_alloc BB _ _
  have hz1 : w.heap.size + 1 + 1 < u1.heap.size := World.block_lt_of_cell? _ _ (hBb 0 _ rfl)
  repeat (first | (with_reducible show Oper.wp _ _ _ _ _ _; refine wp_load_mid (P := Try.prog) 43 _ rfl (w.heap.size) 0 rfl [.int .i64 R.ra, .int .i64 R.rb, .float .f64 R.r2, .float .f64 R.r3, .float .f64 R.r4, .float .f64 R.r5, .float .f64 R.r6, .float .f64 R.r7, .float .f64 R.r8, .float .f64 R.r9, .float .f64 R.r10, .float .f64 R.r11, .int .i64 R.ro, .float .f64 R.r13] _ (by with_reducible assumption) Try.underlying43 rfl (by kernel_rfl) ?_; simp only [go_sem]) | (with_reducible show Oper.wp _ _ _ _ _ _; refine wp_load_mid (P := Try.prog) 45 _ rfl (w.heap.size + 1) 0 rfl [.float .f64 a.sm, .float .f64 a.si, .float .f64 a.sx, .float .f64 a.sy, .float .f64 a.ss] _ (by with_reducible assumption) Try.underlying45 rfl (by kernel_rfl) ?_; simp only [go_sem]) | (with_reducible show Oper.wp _ _ _ _ _ _; refine wp_load_mid (P := Try.prog) 45 _ rfl (w.heap.size + 1 + 1) 0 rfl [.float .f64 b.sm, .float .f64 b.si, .float .f64 b.sx, .float .f64 b.sy, .float .f64 b.ss] _ (by with_reducible assumption) Try.underlying45 rfl (by kernel_rfl) ?_; simp only [go_sem]) | ((have qz := hal; clear qz); go_at_call 24; (with_reducible refine (ldexp_one p (by omega) (by omega) _).mono ?_); rintro e u1 ⟨rfl, rfl⟩) | ((with_reducible show Oper.wp _ { dst := _, op := Op.store 43 _ _, type := _, pos := _, after := _, guard := _ } _ _ _ _); refine wp_store_abs (P := Try.prog) 43 _ _ rfl (u1.heap.size) 0 #[.int .i64 R.ra, .int .i64 R.rb, .float .f64 R.r2, .float .f64 R.r3, .float .f64 R.r4, .float .f64 R.r5, .float .f64 R.r6, .float .f64 R.r7, .float .f64 R.r8, .float .f64 R.r9, .float .f64 R.r10, .float .f64 R.r11, .int .i64 R.ro, .float .f64 R.r13] rfl rfl tt (by kernel_rfl) (by kernel_rfl) (fun V => Bel w V ∧ V.rangeAt (w.heap.size) 0 [.int .i64 R.ra, .int .i64 R.rb, .float .f64 R.r2, .float .f64 R.r3, .float .f64 R.r4, .float .f64 R.r5, .float .f64 R.r6, .float .f64 R.r7, .float .f64 R.r8, .float .f64 R.r9, .float .f64 R.r10, .float .f64 R.r11, .int .i64 R.ro, .float .f64 R.r13] ∧ V.rangeAt (w.heap.size + 1) 0 [.float .f64 a.sm, .float .f64 a.si, .float .f64 a.sx, .float .f64 a.sy, .float .f64 a.ss] ∧ V.rangeAt (w.heap.size + 1 + 1) 0 [.float .f64 b.sm, .float .f64 b.si, .float .f64 b.sx, .float .f64 b.sy, .float .f64 b.ss] ∧ V.rangeAt (u1.heap.size) 0 [.int .i64 R.ra, .int .i64 R.rb, .float .f64 R.r2, .float .f64 R.r3, .float .f64 R.r4, .float .f64 R.r5, .float .f64 R.r6, .float .f64 R.r7, .float .f64 R.r8, .float .f64 R.r9, .float .f64 R.r10, .float .f64 R.r11, .int .i64 R.ro, .float .f64 R.r13] ∧ V.there (u1.heap.size) 0 14) ⟨bel_setsJ _ _ tB (by omega), World.rangeAt_setCells_apart (World.rangeAt_alloc hR _) _ _ _ (.inl (by omega)), World.rangeAt_setCells_apart (World.rangeAt_alloc hA _) _ _ _ (.inl (by omega)), World.rangeAt_setCells_apart (World.rangeAt_alloc hBb _) _ _ _ (.inl (by omega)), World.rangeAt_setCells_same _ _ _ _ tt, World.there_setCells tt _ _ _⟩ ?_; rintro V0 ⟨B0, hR0, hA0, hB0, hT, hTt⟩; clear hR hA hBb BB tt tB; have hR := hR0; have hA := hA0; have hBb := hB0; have BB := B0; clear hR0 hA0 hB0 B0; (have k6 : V0.cell? ⟨w.heap.size, 6, none⟩ = some (.float .f64 R.r6) := by have h := hR 6 _ rfl; rwa [Nat.zero_add] at h); simp only [go_sem]) | ((with_reducible show Oper.wp _ { dst := _, op := Op.store 24 _ _, type := _, pos := _, after := _, guard := _ } _ _ _ _); refine wp_put_f (P := Try.prog) 24 _ _ rfl (u1.heap.size) 6 14 T.r6 rfl rfl hTt (by decide) (by kernel_rfl) (fun V => Bel w V ∧ V.rangeAt (w.heap.size) 0 [.int .i64 R.ra, .int .i64 R.rb, .float .f64 R.r2, .float .f64 R.r3, .float .f64 R.r4, .float .f64 R.r5, .float .f64 R.r6, .float .f64 R.r7, .float .f64 R.r8, .float .f64 R.r9, .float .f64 R.r10, .float .f64 R.r11, .int .i64 R.ro, .float .f64 R.r13] ∧ V.rangeAt (w.heap.size + 1) 0 [.float .f64 a.sm, .float .f64 a.si, .float .f64 a.sx, .float .f64 a.sy, .float .f64 a.ss] ∧ V.rangeAt (w.heap.size + 1 + 1) 0 [.float .f64 b.sm, .float .f64 b.si, .float .f64 b.sx, .float .f64 b.sy, .float .f64 b.ss] ∧ V.rangeAt (u1.heap.size) 0 [.int .i64 R.ra, .int .i64 R.rb, .float .f64 R.r2, .float .f64 R.r3, .float .f64 R.r4, .float .f64 R.r5, .float .f64 T.r6, .float .f64 R.r7, .float .f64 R.r8, .float .f64 R.r9, .float .f64 R.r10, .float .f64 R.r11, .int .i64 R.ro, .float .f64 R.r13] ∧ V.there (u1.heap.size) 0 14) ⟨bl_set BB (by simp <;> omega), rng_set_far hR (by simp <;> omega), rng_set_far hA (by simp <;> omega), rng_set_far hBb (by simp <;> omega), rng_put hT, thr_put hTt⟩ ?_; clear BB hR hA hBb hT hTt k6; rintro V1 ⟨BB, hR, hA, hBb, hT, hTt⟩; (have k7 : V1.cell? ⟨w.heap.size, 7, none⟩ = some (.float .f64 R.r7) := by have h := hR 7 _ rfl; rwa [Nat.zero_add] at h); simp only [go_sem]) | ((with_reducible show Oper.wp _ { dst := _, op := Op.store 24 _ _, type := _, pos := _, after := _, guard := _ } _ _ _ _); refine wp_put_f (P := Try.prog) 24 _ _ rfl (u1.heap.size) 7 14 T.r7 rfl rfl hTt (by decide) (by kernel_rfl) (fun V => Bel w V ∧ V.rangeAt (w.heap.size) 0 [.int .i64 R.ra, .int .i64 R.rb, .float .f64 R.r2, .float .f64 R.r3, .float .f64 R.r4, .float .f64 R.r5, .float .f64 R.r6, .float .f64 R.r7, .float .f64 R.r8, .float .f64 R.r9, .float .f64 R.r10, .float .f64 R.r11, .int .i64 R.ro, .float .f64 R.r13] ∧ V.rangeAt (w.heap.size + 1) 0 [.float .f64 a.sm, .float .f64 a.si, .float .f64 a.sx, .float .f64 a.sy, .float .f64 a.ss] ∧ V.rangeAt (w.heap.size + 1 + 1) 0 [.float .f64 b.sm, .float .f64 b.si, .float .f64 b.sx, .float .f64 b.sy, .float .f64 b.ss] ∧ V.rangeAt (u1.heap.size) 0 [.int .i64 R.ra, .int .i64 R.rb, .float .f64 R.r2, .float .f64 R.r3, .float .f64 R.r4, .float .f64 R.r5, .float .f64 T.r6, .float .f64 T.r7, .float .f64 R.r8, .float .f64 R.r9, .float .f64 R.r10, .float .f64 R.r11, .int .i64 R.ro, .float .f64 R.r13] ∧ V.there (u1.heap.size) 0 14) ⟨bl_set BB (by simp <;> omega), rng_set_far hR (by simp <;> omega), rng_set_far hA (by simp <;> omega), rng_set_far hBb (by simp <;> omega), rng_put hT, thr_put hTt⟩ ?_; clear BB hR hA hBb hT hTt k7; rintro V2 ⟨BB, hR, hA, hBb, hT, hTt⟩; (have k8 : V2.cell? ⟨w.heap.size, 8, none⟩ = some (.float .f64 R.r8) := by have h := hR 8 _ rfl; rwa [Nat.zero_add] at h); simp only [go_sem]) | ((with_reducible show Oper.wp _ { dst := _, op := Op.store 24 _ _, type := _, pos := _, after := _, guard := _ } _ _ _ _); refine wp_put_f (P := Try.prog) 24 _ _ rfl (u1.heap.size) 8 14 T.r8 rfl rfl hTt (by decide) (by kernel_rfl) (fun V => Bel w V ∧ V.rangeAt (w.heap.size) 0 [.int .i64 R.ra, .int .i64 R.rb, .float .f64 R.r2, .float .f64 R.r3, .float .f64 R.r4, .float .f64 R.r5, .float .f64 R.r6, .float .f64 R.r7, .float .f64 R.r8, .float .f64 R.r9, .float .f64 R.r10, .float .f64 R.r11, .int .i64 R.ro, .float .f64 R.r13] ∧ V.rangeAt (w.heap.size + 1) 0 [.float .f64 a.sm, .float .f64 a.si, .float .f64 a.sx, .float .f64 a.sy, .float .f64 a.ss] ∧ V.rangeAt (w.heap.size + 1 + 1) 0 [.float .f64 b.sm, .float .f64 b.si, .float .f64 b.sx, .float .f64 b.sy, .float .f64 b.ss] ∧ V.rangeAt (u1.heap.size) 0 [.int .i64 R.ra, .int .i64 R.rb, .float .f64 R.r2, .float .f64 R.r3, .float .f64 R.r4, .float .f64 R.r5, .float .f64 T.r6, .float .f64 T.r7, .float .f64 T.r8, .float .f64 R.r9, .float .f64 R.r10, .float .f64 R.r11, .int .i64 R.ro, .float .f64 R.r13] ∧ V.there (u1.heap.size) 0 14) ⟨bl_set BB (by simp <;> omega), rng_set_far hR (by simp <;> omega), rng_set_far hA (by simp <;> omega), rng_set_far hBb (by simp <;> omega), rng_put hT, thr_put hTt⟩ ?_; clear BB hR hA hBb hT hTt k8; rintro V3 ⟨BB, hR, hA, hBb, hT, hTt⟩; (have k11 : V3.cell? ⟨w.heap.size, 11, none⟩ = some (.float .f64 R.r11) := by have h := hR 11 _ rfl; rwa [Nat.zero_add] at h); simp only [go_sem]) | ((with_reducible show Oper.wp _ { dst := _, op := Op.store 24 _ _, type := _, pos := _, after := _, guard := _ } _ _ _ _); refine wp_put_f (P := Try.prog) 24 _ _ rfl (u1.heap.size) 11 14 T.r11 rfl rfl hTt (by decide) (by kernel_rfl) (fun V => Bel w V ∧ V.rangeAt (w.heap.size) 0 [.int .i64 R.ra, .int .i64 R.rb, .float .f64 R.r2, .float .f64 R.r3, .float .f64 R.r4, .float .f64 R.r5, .float .f64 R.r6, .float .f64 R.r7, .float .f64 R.r8, .float .f64 R.r9, .float .f64 R.r10, .float .f64 R.r11, .int .i64 R.ro, .float .f64 R.r13] ∧ V.rangeAt (w.heap.size + 1) 0 [.float .f64 a.sm, .float .f64 a.si, .float .f64 a.sx, .float .f64 a.sy, .float .f64 a.ss] ∧ V.rangeAt (w.heap.size + 1 + 1) 0 [.float .f64 b.sm, .float .f64 b.si, .float .f64 b.sx, .float .f64 b.sy, .float .f64 b.ss] ∧ V.rangeAt (u1.heap.size) 0 [.int .i64 R.ra, .int .i64 R.rb, .float .f64 R.r2, .float .f64 R.r3, .float .f64 R.r4, .float .f64 R.r5, .float .f64 T.r6, .float .f64 T.r7, .float .f64 T.r8, .float .f64 R.r9, .float .f64 R.r10, .float .f64 T.r11, .int .i64 R.ro, .float .f64 R.r13] ∧ V.there (u1.heap.size) 0 14) ⟨bl_set BB (by simp <;> omega), rng_set_far hR (by simp <;> omega), rng_set_far hA (by simp <;> omega), rng_set_far hBb (by simp <;> omega), rng_put hT, thr_put hTt⟩ ?_; clear BB hR hA hBb hT hTt k11; rintro V4 ⟨BB, hR, hA, hBb, hT, hTt⟩; (have k9 : V4.cell? ⟨w.heap.size, 9, none⟩ = some (.float .f64 R.r9) := by have h := hR 9 _ rfl; rwa [Nat.zero_add] at h); simp only [go_sem]) | ((with_reducible show Oper.wp _ { dst := _, op := Op.store 24 _ _, type := _, pos := _, after := _, guard := _ } _ _ _ _); refine wp_put_f (P := Try.prog) 24 _ _ rfl (u1.heap.size) 9 14 T.r9 rfl rfl hTt (by decide) (by kernel_rfl) (fun V => Bel w V ∧ V.rangeAt (w.heap.size) 0 [.int .i64 R.ra, .int .i64 R.rb, .float .f64 R.r2, .float .f64 R.r3, .float .f64 R.r4, .float .f64 R.r5, .float .f64 R.r6, .float .f64 R.r7, .float .f64 R.r8, .float .f64 R.r9, .float .f64 R.r10, .float .f64 R.r11, .int .i64 R.ro, .float .f64 R.r13] ∧ V.rangeAt (w.heap.size + 1) 0 [.float .f64 a.sm, .float .f64 a.si, .float .f64 a.sx, .float .f64 a.sy, .float .f64 a.ss] ∧ V.rangeAt (w.heap.size + 1 + 1) 0 [.float .f64 b.sm, .float .f64 b.si, .float .f64 b.sx, .float .f64 b.sy, .float .f64 b.ss] ∧ V.rangeAt (u1.heap.size) 0 [.int .i64 R.ra, .int .i64 R.rb, .float .f64 R.r2, .float .f64 R.r3, .float .f64 R.r4, .float .f64 R.r5, .float .f64 T.r6, .float .f64 T.r7, .float .f64 T.r8, .float .f64 T.r9, .float .f64 R.r10, .float .f64 T.r11, .int .i64 R.ro, .float .f64 R.r13] ∧ V.there (u1.heap.size) 0 14) ⟨bl_set BB (by simp <;> omega), rng_set_far hR (by simp <;> omega), rng_set_far hA (by simp <;> omega), rng_set_far hBb (by simp <;> omega), rng_put hT, thr_put hTt⟩ ?_; clear BB hR hA hBb hT hTt k9; rintro V5 ⟨BB, hR, hA, hBb, hT, hTt⟩; (have k10 : V5.cell? ⟨w.heap.size, 10, none⟩ = some (.float .f64 R.r10) := by have h := hR 10 _ rfl; rwa [Nat.zero_add] at h); simp only [go_sem]) | ((with_reducible show Oper.wp _ { dst := _, op := Op.store 24 _ _, type := _, pos := _, after := _, guard := _ } _ _ _ _); refine wp_put_f (P := Try.prog) 24 _ _ rfl (u1.heap.size) 10 14 T.r10 rfl rfl hTt (by decide) (by kernel_rfl) (fun V => Bel w V ∧ V.rangeAt (w.heap.size) 0 [.int .i64 R.ra, .int .i64 R.rb, .float .f64 R.r2, .float .f64 R.r3, .float .f64 R.r4, .float .f64 R.r5, .float .f64 R.r6, .float .f64 R.r7, .float .f64 R.r8, .float .f64 R.r9, .float .f64 R.r10, .float .f64 R.r11, .int .i64 R.ro, .float .f64 R.r13] ∧ V.rangeAt (w.heap.size + 1) 0 [.float .f64 a.sm, .float .f64 a.si, .float .f64 a.sx, .float .f64 a.sy, .float .f64 a.ss] ∧ V.rangeAt (w.heap.size + 1 + 1) 0 [.float .f64 b.sm, .float .f64 b.si, .float .f64 b.sx, .float .f64 b.sy, .float .f64 b.ss] ∧ V.rangeAt (u1.heap.size) 0 [.int .i64 R.ra, .int .i64 R.rb, .float .f64 R.r2, .float .f64 R.r3, .float .f64 R.r4, .float .f64 R.r5, .float .f64 T.r6, .float .f64 T.r7, .float .f64 T.r8, .float .f64 T.r9, .float .f64 T.r10, .float .f64 T.r11, .int .i64 R.ro, .float .f64 R.r13] ∧ V.there (u1.heap.size) 0 14) ⟨bl_set BB (by simp <;> omega), rng_set_far hR (by simp <;> omega), rng_set_far hA (by simp <;> omega), rng_set_far hBb (by simp <;> omega), rng_put hT, thr_put hTt⟩ ?_; clear BB hR hA hBb hT hTt k10; rintro V6 ⟨BB, hR, hA, hBb, hT, hTt⟩; rw [k.cT] at hT; clear hTt; have hzP : u1.heap.size < V6.heap.size := World.block_lt_of_cell? _ _ (hT 0 _ rfl); simp only [go_sem]) | (with_reducible show Oper.wp _ _ _ _ _ _; refine wp_load_mid (P := Try.prog) 43 _ rfl (u1.heap.size) 0 rfl [.int .i64 T.ra, .int .i64 T.rb, .float .f64 T.r2, .float .f64 T.r3, .float .f64 T.r4, .float .f64 T.r5, .float .f64 T.r6, .float .f64 T.r7, .float .f64 T.r8, .float .f64 T.r9, .float .f64 T.r10, .float .f64 T.r11, .int .i64 T.ro, .float .f64 T.r13] _ (by with_reducible assumption) Try.underlying43 rfl (by kernel_rfl) ?_; simp only [go_sem]) | (go_at_call 20; (with_reducible refine (hS1 _).mono ?_); rintro e u2 ⟨rfl, b2⟩; replace hR := rng_bel hR b2; replace hA := rng_bel hA b2; replace hBb := rng_bel hBb b2; replace BB := bl_trans BB b2; replace hT := rng_bel hT b2) | go_values | go_skip | go_guarded | go_step | go_upon | go_back | dsimp only)
  refine wp_region_mono 13 rfl (fun i W v => match i with | 0 => v = .agg #[.int .i64 T.ra, .int .i64 T.rb, .float .f64 T.r2, .float .f64 T.r3, .float .f64 T.r4, .float .f64 T.r5, .float .f64 T.r6, .float .f64 T.r7, .float .f64 T.r8, .float .f64 T.r9, .float .f64 T.r10, .float .f64 T.r11, .int .i64 T.ro, .float .f64 T.r13] | 1 => v = .agg #[.float .f64 a.sm, .float .f64 a.si, .float .f64 a.sx, .float .f64 a.sy, .float .f64 a.ss] | 2 => v = .float .f64 (pw p) | 3 => v = .agg #[.float .f64 A.sm, .float .f64 A.si, .float .f64 A.sx, .float .f64 A.sy, .float .f64 A.ss] | 4 => v = .agg #[.float .f64 b.sm, .float .f64 b.si, .float .f64 b.sx, .float .f64 b.sy, .float .f64 b.ss] | 5 => v = .float .f64 (pw p) | 6 => v = .agg #[.float .f64 B.sm, .float .f64 B.si, .float .f64 B.sx, .float .f64 B.sy, .float .f64 B.ss] | 7 => v = .tuple #[.float .f64 sq, .int .i64 0] | 8 => v = .tuple #[.float .f64 sq, .int .i64 0] | 9 => v = .float .f64 sq | 10 => v = .int .i64 0 | 11 => v = .float .f64 sq | 12 => v = .int .i64 0 | _ => False) ?A_w16 (by kernel_rfl) (by kernel_rfl) ?hA_w16 ?hmo_w16 ?hq_w16 ?ht_w16
  case hA_w16 =>
    intro s
    simp only [putL, dstO, Act.put, List.getElem?_toArray, List.getElem?_cons_zero, List.getElem?_cons_succ, Option.bind_some, List.setIfInBounds_toArray, List.set_cons_zero, List.set_cons_succ, if_true]
    all_goals exact rfl
  case hmo_w16 =>
    intro i W W' v hi hb h
    rcases (show i = 0 ∨ i = 1 ∨ i = 2 ∨ i = 3 ∨ i = 4 ∨ i = 5 ∨ i = 6 ∨ i = 7 ∨ i = 8 ∨ i = 9 ∨ i = 10 ∨ i = 11 ∨ i = 12 by omega) with rfl | rfl | rfl | rfl | rfl | rfl | rfl | rfl | rfl | rfl | rfl | rfl | rfl
    all_goals exact h
  case hq_w16 =>
    intro i o hi ho s W hs hb K hK
    rcases (show i = 0 ∨ i = 1 ∨ i = 2 ∨ i = 3 ∨ i = 4 ∨ i = 5 ∨ i = 6 ∨ i = 7 ∨ i = 8 ∨ i = 9 ∨ i = 10 ∨ i = 11 ∨ i = 12 by omega) with rfl | rfl | rfl | rfl | rfl | rfl | rfl | rfl | rfl | rfl | rfl | rfl | rfl
    · cases ho
      simp only [Act.put, List.setIfInBounds_toArray, List.set_cons_zero, List.set_cons_succ] at hK
      clear hs
      refine wp_load_mid (P := Try.prog) 43 _ rfl (u1.heap.size) 0 rfl [.int .i64 T.ra, .int .i64 T.rb, .float .f64 T.r2, .float .f64 T.r3, .float .f64 T.r4, .float .f64 T.r5, .float .f64 T.r6, .float .f64 T.r7, .float .f64 T.r8, .float .f64 T.r9, .float .f64 T.r10, .float .f64 T.r11, .int .i64 T.ro, .float .f64 T.r13] _ (rng_bel hT hb) Try.underlying43 rfl (by kernel_rfl) ?_; exact hK.out _ _ rfl (bl_refl _)
    · cases ho
      simp only [Act.put, List.setIfInBounds_toArray, List.set_cons_zero, List.set_cons_succ] at hK
      clear hs
      refine wp_load_mid (P := Try.prog) 45 _ rfl (w.heap.size + 1) 0 rfl [.float .f64 a.sm, .float .f64 a.si, .float .f64 a.sx, .float .f64 a.sy, .float .f64 a.ss] _ (rng_bel hA hb) Try.underlying45 rfl (by kernel_rfl) ?_; exact hK.out _ _ rfl (bl_refl _)
    · cases ho
      simp only [Act.put, List.setIfInBounds_toArray, List.set_cons_zero, List.set_cons_succ] at hK
      clear hs
      go_simp
      all_goals first | with_reducible exact hK.out _ _ rfl (bl_refl _) | exact hK.out _ _ rfl (bl_refl _)
    · cases ho
      have e1 : s 1 = _ := hs 1 (by decide) (by kernel_rfl)
      have e2 : s 2 = _ := hs 2 (by decide) (by kernel_rfl)
      simp only [e1, e2] at hK ⊢
      simp only [Act.put, List.setIfInBounds_toArray, List.set_cons_zero, List.set_cons_succ] at hK
      clear hs
      go_simp
      all_goals (try go_wp2_with (first | (go_at_call 25; (with_reducible refine (hLA _).mono ?_); rintro e w' ⟨rfl, hb1⟩)))
      all_goals first | exact hK.out _ _ rfl hb1 | exact hK.out _ _ rfl hb1 | with_reducible exact hK.out _ _ rfl (bl_refl _) | exact hK.out _ _ rfl (bl_refl _)
    · cases ho
      simp only [Act.put, List.setIfInBounds_toArray, List.set_cons_zero, List.set_cons_succ] at hK
      clear hs
      refine wp_load_mid (P := Try.prog) 45 _ rfl (w.heap.size + 1 + 1) 0 rfl [.float .f64 b.sm, .float .f64 b.si, .float .f64 b.sx, .float .f64 b.sy, .float .f64 b.ss] _ (rng_bel hBb hb) Try.underlying45 rfl (by kernel_rfl) ?_; exact hK.out _ _ rfl (bl_refl _)
    · cases ho
      simp only [Act.put, List.setIfInBounds_toArray, List.set_cons_zero, List.set_cons_succ] at hK
      clear hs
      go_simp
      all_goals first | with_reducible exact hK.out _ _ rfl (bl_refl _) | exact hK.out _ _ rfl (bl_refl _)
    · cases ho
      have e4 : s 4 = _ := hs 4 (by decide) (by kernel_rfl)
      have e5 : s 5 = _ := hs 5 (by decide) (by kernel_rfl)
      simp only [e4, e5] at hK ⊢
      simp only [Act.put, List.setIfInBounds_toArray, List.set_cons_zero, List.set_cons_succ] at hK
      clear hs
      go_simp
      all_goals (try go_wp2_with (first | (go_at_call 25; (with_reducible refine (hLB _).mono ?_); rintro e w' ⟨rfl, hb1⟩)))
      all_goals first | exact hK.out _ _ rfl hb1 | exact hK.out _ _ rfl hb1 | with_reducible exact hK.out _ _ rfl (bl_refl _) | exact hK.out _ _ rfl (bl_refl _)
    · cases ho
      have e0 : s 0 = _ := hs 0 (by decide) (by kernel_rfl)
      have e3 : s 3 = _ := hs 3 (by decide) (by kernel_rfl)
      have e6 : s 6 = _ := hs 6 (by decide) (by kernel_rfl)
      simp only [e0, e3, e6] at hK ⊢
      simp only [Act.put, List.setIfInBounds_toArray, List.set_cons_zero, List.set_cons_succ] at hK
      clear hs
      go_simp
      all_goals (try go_wp2_with (first | (go_at_call 20; (with_reducible refine (hS2 _).mono ?_); rintro e w' ⟨rfl, hb1⟩)))
      all_goals first | exact hK.out _ _ rfl hb1 | exact hK.out _ _ rfl hb1 | with_reducible exact hK.out _ _ rfl (bl_refl _) | exact hK.out _ _ rfl (bl_refl _)
    · cases ho
      have e7 : s 7 = _ := hs 7 (by decide) (by kernel_rfl)
      simp only [e7] at hK ⊢
      simp only [Act.put, List.setIfInBounds_toArray, List.set_cons_zero, List.set_cons_succ] at hK
      clear hs
      go_simp
      all_goals first | with_reducible exact hK.out _ _ rfl (bl_refl _) | exact hK.out _ _ rfl (bl_refl _)
    · cases ho
      have e8 : s 8 = _ := hs 8 (by decide) (by kernel_rfl)
      simp only [e8] at hK ⊢
      simp only [Act.put, List.setIfInBounds_toArray, List.set_cons_zero, List.set_cons_succ] at hK
      clear hs
      go_simp
      all_goals first | with_reducible exact hK.out _ _ rfl (bl_refl _) | exact hK.out _ _ rfl (bl_refl _)
    · cases ho
      have e8 : s 8 = _ := hs 8 (by decide) (by kernel_rfl)
      simp only [e8] at hK ⊢
      simp only [Act.put, List.setIfInBounds_toArray, List.set_cons_zero, List.set_cons_succ] at hK
      clear hs
      go_simp
      all_goals first | with_reducible exact hK.out _ _ rfl (bl_refl _) | exact hK.out _ _ rfl (bl_refl _)
    · cases ho
      have e9 : s 9 = _ := hs 9 (by decide) (by kernel_rfl)
      simp only [e9] at hK ⊢
      simp only [Act.put, List.setIfInBounds_toArray, List.set_cons_zero, List.set_cons_succ] at hK
      clear hs
      go_simp
      all_goals first | with_reducible exact hK.out _ _ rfl (bl_refl _) | exact hK.out _ _ rfl (bl_refl _)
    · cases ho
      have e10 : s 10 = _ := hs 10 (by decide) (by kernel_rfl)
      simp only [e10] at hK ⊢
      simp only [Act.put, List.setIfInBounds_toArray, List.set_cons_zero, List.set_cons_succ] at hK
      clear hs
      go_simp
      all_goals first | with_reducible exact hK.out _ _ rfl (bl_refl _) | exact hK.out _ _ rfl (bl_refl _)
  case ht_w16 =>
    intro s w16 hs hbw16
    have e0 : s 0 = _ := hs 0 (by decide)
    have e1 : s 1 = _ := hs 1 (by decide)
    have e2 : s 2 = _ := hs 2 (by decide)
    have e3 : s 3 = _ := hs 3 (by decide)
    have e4 : s 4 = _ := hs 4 (by decide)
    have e5 : s 5 = _ := hs 5 (by decide)
    have e6 : s 6 = _ := hs 6 (by decide)
    have e7 : s 7 = _ := hs 7 (by decide)
    have e8 : s 8 = _ := hs 8 (by decide)
    have e9 : s 9 = _ := hs 9 (by decide)
    have e10 : s 10 = _ := hs 10 (by decide)
    have e11 : s 11 = _ := hs 11 (by decide)
    have e12 : s 12 = _ := hs 12 (by decide)
    simp only [e0, e1, e2, e3, e4, e5, e6, e7, e8, e9, e10, e11, e12]
    clear hs e0 e1 e2 e3 e4 e5 e6 e7 e8 e9 e10 e11 e12
    replace hR := rng_bel hR hbw16; replace hA := rng_bel hA hbw16; replace hBb := rng_bel hBb hbw16; replace hT := rng_bel hT hbw16; replace BB := bl_trans BB hbw16
    clear hbw16
    repeat (first | (with_reducible show Oper.wp _ _ _ _ _ _; refine wp_load_mid (P := Try.prog) 43 _ rfl (w.heap.size) 0 rfl [.int .i64 R.ra, .int .i64 R.rb, .float .f64 R.r2, .float .f64 R.r3, .float .f64 R.r4, .float .f64 R.r5, .float .f64 R.r6, .float .f64 R.r7, .float .f64 R.r8, .float .f64 R.r9, .float .f64 R.r10, .float .f64 R.r11, .int .i64 R.ro, .float .f64 R.r13] _ (by with_reducible assumption) Try.underlying43 rfl (by kernel_rfl) ?_; simp only [go_sem]) | (with_reducible show Oper.wp _ _ _ _ _ _; refine wp_load_mid (P := Try.prog) 45 _ rfl (w.heap.size + 1) 0 rfl [.float .f64 a.sm, .float .f64 a.si, .float .f64 a.sx, .float .f64 a.sy, .float .f64 a.ss] _ (by with_reducible assumption) Try.underlying45 rfl (by kernel_rfl) ?_; simp only [go_sem]) | (with_reducible show Oper.wp _ _ _ _ _ _; refine wp_load_mid (P := Try.prog) 45 _ rfl (w.heap.size + 1 + 1) 0 rfl [.float .f64 b.sm, .float .f64 b.si, .float .f64 b.sx, .float .f64 b.sy, .float .f64 b.ss] _ (by with_reducible assumption) Try.underlying45 rfl (by kernel_rfl) ?_; simp only [go_sem]) | (with_reducible show Oper.wp _ _ _ _ _ _; refine wp_load_mid (P := Try.prog) 43 _ rfl (u1.heap.size) 0 rfl [.int .i64 T.ra, .int .i64 T.rb, .float .f64 T.r2, .float .f64 T.r3, .float .f64 T.r4, .float .f64 T.r5, .float .f64 T.r6, .float .f64 T.r7, .float .f64 T.r8, .float .f64 T.r9, .float .f64 T.r10, .float .f64 T.r11, .int .i64 T.ro, .float .f64 T.r13] _ (by with_reducible assumption) Try.underlying43 rfl (by kernel_rfl) ?_; simp only [go_sem]) | (go_at_call 17; (with_reducible refine (hW1 _).mono ?_); rintro e u4 ⟨rfl, b4⟩; replace hR := rng_bel hR b4; replace hA := rng_bel hA b4; replace hBb := rng_bel hBb b4; replace BB := bl_trans BB b4; replace hT := rng_bel hT b4) | go_values | go_skip | go_guarded | go_step | go_upon | go_back | dsimp only)
    refine wp_region_mono 13 rfl (fun i W v => match i with | 0 => v = .agg #[.int .i64 T.ra, .int .i64 T.rb, .float .f64 T.r2, .float .f64 T.r3, .float .f64 T.r4, .float .f64 T.r5, .float .f64 T.r6, .float .f64 T.r7, .float .f64 T.r8, .float .f64 T.r9, .float .f64 T.r10, .float .f64 T.r11, .int .i64 T.ro, .float .f64 T.r13] | 1 => v = .agg #[.float .f64 a.sm, .float .f64 a.si, .float .f64 a.sx, .float .f64 a.sy, .float .f64 a.ss] | 2 => v = .float .f64 (pw p) | 3 => v = .agg #[.float .f64 A.sm, .float .f64 A.si, .float .f64 A.sx, .float .f64 A.sy, .float .f64 A.ss] | 4 => v = .agg #[.float .f64 b.sm, .float .f64 b.si, .float .f64 b.sx, .float .f64 b.sy, .float .f64 b.ss] | 5 => v = .float .f64 (pw p) | 6 => v = .agg #[.float .f64 B.sm, .float .f64 B.si, .float .f64 B.sx, .float .f64 B.sy, .float .f64 B.ss] | 7 => v = .tuple #[.float .f64 wq, .int .i64 0] | 8 => v = .tuple #[.float .f64 wq, .int .i64 0] | 9 => v = .float .f64 wq | 10 => v = .int .i64 0 | 11 => v = .float .f64 wq | 12 => v = .int .i64 0 | _ => False) ?A_w18 (by kernel_rfl) (by kernel_rfl) ?hA_w18 ?hmo_w18 ?hq_w18 ?ht_w18
    case hA_w18 =>
      intro s
      simp only [putL, dstO, Act.put, List.getElem?_toArray, List.getElem?_cons_zero, List.getElem?_cons_succ, Option.bind_some, List.setIfInBounds_toArray, List.set_cons_zero, List.set_cons_succ, if_true]
      all_goals exact rfl
    case hmo_w18 =>
      intro i W W' v hi hb h
      rcases (show i = 0 ∨ i = 1 ∨ i = 2 ∨ i = 3 ∨ i = 4 ∨ i = 5 ∨ i = 6 ∨ i = 7 ∨ i = 8 ∨ i = 9 ∨ i = 10 ∨ i = 11 ∨ i = 12 by omega) with rfl | rfl | rfl | rfl | rfl | rfl | rfl | rfl | rfl | rfl | rfl | rfl | rfl
      all_goals exact h
    case hq_w18 =>
      intro i o hi ho s W hs hb K hK
      rcases (show i = 0 ∨ i = 1 ∨ i = 2 ∨ i = 3 ∨ i = 4 ∨ i = 5 ∨ i = 6 ∨ i = 7 ∨ i = 8 ∨ i = 9 ∨ i = 10 ∨ i = 11 ∨ i = 12 by omega) with rfl | rfl | rfl | rfl | rfl | rfl | rfl | rfl | rfl | rfl | rfl | rfl | rfl
      · cases ho
        simp only [Act.put, List.setIfInBounds_toArray, List.set_cons_zero, List.set_cons_succ] at hK
        clear hs
        refine wp_load_mid (P := Try.prog) 43 _ rfl (u1.heap.size) 0 rfl [.int .i64 T.ra, .int .i64 T.rb, .float .f64 T.r2, .float .f64 T.r3, .float .f64 T.r4, .float .f64 T.r5, .float .f64 T.r6, .float .f64 T.r7, .float .f64 T.r8, .float .f64 T.r9, .float .f64 T.r10, .float .f64 T.r11, .int .i64 T.ro, .float .f64 T.r13] _ (rng_bel hT hb) Try.underlying43 rfl (by kernel_rfl) ?_; exact hK.out _ _ rfl (bl_refl _)
      · cases ho
        simp only [Act.put, List.setIfInBounds_toArray, List.set_cons_zero, List.set_cons_succ] at hK
        clear hs
        refine wp_load_mid (P := Try.prog) 45 _ rfl (w.heap.size + 1) 0 rfl [.float .f64 a.sm, .float .f64 a.si, .float .f64 a.sx, .float .f64 a.sy, .float .f64 a.ss] _ (rng_bel hA hb) Try.underlying45 rfl (by kernel_rfl) ?_; exact hK.out _ _ rfl (bl_refl _)
      · cases ho
        simp only [Act.put, List.setIfInBounds_toArray, List.set_cons_zero, List.set_cons_succ] at hK
        clear hs
        go_simp
        all_goals first | with_reducible exact hK.out _ _ rfl (bl_refl _) | exact hK.out _ _ rfl (bl_refl _)
      · cases ho
        have e1 : s 1 = _ := hs 1 (by decide) (by kernel_rfl)
        have e2 : s 2 = _ := hs 2 (by decide) (by kernel_rfl)
        simp only [e1, e2] at hK ⊢
        simp only [Act.put, List.setIfInBounds_toArray, List.set_cons_zero, List.set_cons_succ] at hK
        clear hs
        go_simp
        all_goals (try go_wp2_with (first | (go_at_call 25; (with_reducible refine (hLA _).mono ?_); rintro e w' ⟨rfl, hb1⟩)))
        all_goals first | exact hK.out _ _ rfl hb1 | exact hK.out _ _ rfl hb1 | with_reducible exact hK.out _ _ rfl (bl_refl _) | exact hK.out _ _ rfl (bl_refl _)
      · cases ho
        simp only [Act.put, List.setIfInBounds_toArray, List.set_cons_zero, List.set_cons_succ] at hK
        clear hs
        refine wp_load_mid (P := Try.prog) 45 _ rfl (w.heap.size + 1 + 1) 0 rfl [.float .f64 b.sm, .float .f64 b.si, .float .f64 b.sx, .float .f64 b.sy, .float .f64 b.ss] _ (rng_bel hBb hb) Try.underlying45 rfl (by kernel_rfl) ?_; exact hK.out _ _ rfl (bl_refl _)
      · cases ho
        simp only [Act.put, List.setIfInBounds_toArray, List.set_cons_zero, List.set_cons_succ] at hK
        clear hs
        go_simp
        all_goals first | with_reducible exact hK.out _ _ rfl (bl_refl _) | exact hK.out _ _ rfl (bl_refl _)
      · cases ho
        have e4 : s 4 = _ := hs 4 (by decide) (by kernel_rfl)
        have e5 : s 5 = _ := hs 5 (by decide) (by kernel_rfl)
        simp only [e4, e5] at hK ⊢
        simp only [Act.put, List.setIfInBounds_toArray, List.set_cons_zero, List.set_cons_succ] at hK
        clear hs
        go_simp
        all_goals (try go_wp2_with (first | (go_at_call 25; (with_reducible refine (hLB _).mono ?_); rintro e w' ⟨rfl, hb1⟩)))
        all_goals first | exact hK.out _ _ rfl hb1 | exact hK.out _ _ rfl hb1 | with_reducible exact hK.out _ _ rfl (bl_refl _) | exact hK.out _ _ rfl (bl_refl _)
      · cases ho
        have e0 : s 0 = _ := hs 0 (by decide) (by kernel_rfl)
        have e3 : s 3 = _ := hs 3 (by decide) (by kernel_rfl)
        have e6 : s 6 = _ := hs 6 (by decide) (by kernel_rfl)
        simp only [e0, e3, e6] at hK ⊢
        simp only [Act.put, List.setIfInBounds_toArray, List.set_cons_zero, List.set_cons_succ] at hK
        clear hs
        go_simp
        all_goals (try go_wp2_with (first | (go_at_call 17; (with_reducible refine (hW2 _).mono ?_); rintro e w' ⟨rfl, hb1⟩)))
        all_goals first | exact hK.out _ _ rfl hb1 | exact hK.out _ _ rfl hb1 | with_reducible exact hK.out _ _ rfl (bl_refl _) | exact hK.out _ _ rfl (bl_refl _)
      · cases ho
        have e7 : s 7 = _ := hs 7 (by decide) (by kernel_rfl)
        simp only [e7] at hK ⊢
        simp only [Act.put, List.setIfInBounds_toArray, List.set_cons_zero, List.set_cons_succ] at hK
        clear hs
        go_simp
        all_goals first | with_reducible exact hK.out _ _ rfl (bl_refl _) | exact hK.out _ _ rfl (bl_refl _)
      · cases ho
        have e8 : s 8 = _ := hs 8 (by decide) (by kernel_rfl)
        simp only [e8] at hK ⊢
        simp only [Act.put, List.setIfInBounds_toArray, List.set_cons_zero, List.set_cons_succ] at hK
        clear hs
        go_simp
        all_goals first | with_reducible exact hK.out _ _ rfl (bl_refl _) | exact hK.out _ _ rfl (bl_refl _)
      · cases ho
        have e8 : s 8 = _ := hs 8 (by decide) (by kernel_rfl)
        simp only [e8] at hK ⊢
        simp only [Act.put, List.setIfInBounds_toArray, List.set_cons_zero, List.set_cons_succ] at hK
        clear hs
        go_simp
        all_goals first | with_reducible exact hK.out _ _ rfl (bl_refl _) | exact hK.out _ _ rfl (bl_refl _)
      · cases ho
        have e9 : s 9 = _ := hs 9 (by decide) (by kernel_rfl)
        simp only [e9] at hK ⊢
        simp only [Act.put, List.setIfInBounds_toArray, List.set_cons_zero, List.set_cons_succ] at hK
        clear hs
        go_simp
        all_goals first | with_reducible exact hK.out _ _ rfl (bl_refl _) | exact hK.out _ _ rfl (bl_refl _)
      · cases ho
        have e10 : s 10 = _ := hs 10 (by decide) (by kernel_rfl)
        simp only [e10] at hK ⊢
        simp only [Act.put, List.setIfInBounds_toArray, List.set_cons_zero, List.set_cons_succ] at hK
        clear hs
        go_simp
        all_goals first | with_reducible exact hK.out _ _ rfl (bl_refl _) | exact hK.out _ _ rfl (bl_refl _)
    case ht_w18 =>
      intro s w18 hs hbw18
      have e0 : s 0 = _ := hs 0 (by decide)
      have e1 : s 1 = _ := hs 1 (by decide)
      have e2 : s 2 = _ := hs 2 (by decide)
      have e3 : s 3 = _ := hs 3 (by decide)
      have e4 : s 4 = _ := hs 4 (by decide)
      have e5 : s 5 = _ := hs 5 (by decide)
      have e6 : s 6 = _ := hs 6 (by decide)
      have e7 : s 7 = _ := hs 7 (by decide)
      have e8 : s 8 = _ := hs 8 (by decide)
      have e9 : s 9 = _ := hs 9 (by decide)
      have e10 : s 10 = _ := hs 10 (by decide)
      have e11 : s 11 = _ := hs 11 (by decide)
      have e12 : s 12 = _ := hs 12 (by decide)
      simp only [e0, e1, e2, e3, e4, e5, e6, e7, e8, e9, e10, e11, e12]
      clear hs e0 e1 e2 e3 e4 e5 e6 e7 e8 e9 e10 e11 e12
      replace hR := rng_bel hR hbw18; replace hA := rng_bel hA hbw18; replace hBb := rng_bel hBb hbw18; replace hT := rng_bel hT hbw18; replace BB := bl_trans BB hbw18
      clear hbw18
      repeat (first | (with_reducible show Oper.wp _ _ _ _ _ _; refine wp_load_mid (P := Try.prog) 43 _ rfl (w.heap.size) 0 rfl [.int .i64 R.ra, .int .i64 R.rb, .float .f64 R.r2, .float .f64 R.r3, .float .f64 R.r4, .float .f64 R.r5, .float .f64 R.r6, .float .f64 R.r7, .float .f64 R.r8, .float .f64 R.r9, .float .f64 R.r10, .float .f64 R.r11, .int .i64 R.ro, .float .f64 R.r13] _ (by with_reducible assumption) Try.underlying43 rfl (by kernel_rfl) ?_; simp only [go_sem]) | (with_reducible show Oper.wp _ _ _ _ _ _; refine wp_load_mid (P := Try.prog) 45 _ rfl (w.heap.size + 1) 0 rfl [.float .f64 a.sm, .float .f64 a.si, .float .f64 a.sx, .float .f64 a.sy, .float .f64 a.ss] _ (by with_reducible assumption) Try.underlying45 rfl (by kernel_rfl) ?_; simp only [go_sem]) | (with_reducible show Oper.wp _ _ _ _ _ _; refine wp_load_mid (P := Try.prog) 45 _ rfl (w.heap.size + 1 + 1) 0 rfl [.float .f64 b.sm, .float .f64 b.si, .float .f64 b.sx, .float .f64 b.sy, .float .f64 b.ss] _ (by with_reducible assumption) Try.underlying45 rfl (by kernel_rfl) ?_; simp only [go_sem]) | (with_reducible show Oper.wp _ _ _ _ _ _; refine wp_load_mid (P := Try.prog) 43 _ rfl (u1.heap.size) 0 rfl [.int .i64 T.ra, .int .i64 T.rb, .float .f64 T.r2, .float .f64 T.r3, .float .f64 T.r4, .float .f64 T.r5, .float .f64 T.r6, .float .f64 T.r7, .float .f64 T.r8, .float .f64 T.r9, .float .f64 T.r10, .float .f64 T.r11, .int .i64 T.ro, .float .f64 T.r13] _ (by with_reducible assumption) Try.underlying43 rfl (by kernel_rfl) ?_; simp only [go_sem]) | (go_at_call 18; (with_reducible refine (hO1 _).mono ?_); rintro e u5 ⟨rfl, b5⟩; replace hR := rng_bel hR b5; replace hA := rng_bel hA b5; replace hBb := rng_bel hBb b5; replace BB := bl_trans BB b5; replace hT := rng_bel hT b5; (have t0 : (((u5.alloc (.cells #[.int .i64 0, .int .i64 0, .float .f64 0, .float .f64 0, .float .f64 0, .float .f64 0, .float .f64 0, .float .f64 0, .float .f64 0, .float .f64 0, .float .f64 0, .float .f64 0, .int .i64 0, .float .f64 0] 43)).alloc (.cells #[.float .f64 0, .float .f64 0, .float .f64 0, .float .f64 0, .float .f64 0] 45)).alloc (.cells #[.float .f64 0, .float .f64 0, .float .f64 0, .float .f64 0, .float .f64 0] 45)).there (u5.heap.size) 0 14 := World.there_alloc (World.there_alloc (there_new u5 [.int .i64 0, .int .i64 0, .float .f64 0, .float .f64 0, .float .f64 0, .float .f64 0, .float .f64 0, .float .f64 0, .float .f64 0, .float .f64 0, .float .f64 0, .float .f64 0, .int .i64 0, .float .f64 0] 43) _) _); (have t1 : (((u5.alloc (.cells #[.int .i64 0, .int .i64 0, .float .f64 0, .float .f64 0, .float .f64 0, .float .f64 0, .float .f64 0, .float .f64 0, .float .f64 0, .float .f64 0, .float .f64 0, .float .f64 0, .int .i64 0, .float .f64 0] 43)).alloc (.cells #[.float .f64 0, .float .f64 0, .float .f64 0, .float .f64 0, .float .f64 0] 45)).alloc (.cells #[.float .f64 0, .float .f64 0, .float .f64 0, .float .f64 0, .float .f64 0] 45)).there (u5.heap.size + 1) 0 5 := by have h := there_new (u5.alloc (.cells #[.int .i64 0, .int .i64 0, .float .f64 0, .float .f64 0, .float .f64 0, .float .f64 0, .float .f64 0, .float .f64 0, .float .f64 0, .float .f64 0, .float .f64 0, .float .f64 0, .int .i64 0, .float .f64 0] 43)) [.float .f64 0, .float .f64 0, .float .f64 0, .float .f64 0, .float .f64 0] 45; rw [World.size_alloc] at h; exact World.there_alloc h _); (have t2 : (((u5.alloc (.cells #[.int .i64 0, .int .i64 0, .float .f64 0, .float .f64 0, .float .f64 0, .float .f64 0, .float .f64 0, .float .f64 0, .float .f64 0, .float .f64 0, .float .f64 0, .float .f64 0, .int .i64 0, .float .f64 0] 43)).alloc (.cells #[.float .f64 0, .float .f64 0, .float .f64 0, .float .f64 0, .float .f64 0] 45)).alloc (.cells #[.float .f64 0, .float .f64 0, .float .f64 0, .float .f64 0, .float .f64 0] 45)).there (u5.heap.size + 1 + 1) 0 5 := by have h := there_new ((u5.alloc (.cells #[.int .i64 0, .int .i64 0, .float .f64 0, .float .f64 0, .float .f64 0, .float .f64 0, .float .f64 0, .float .f64 0, .float .f64 0, .float .f64 0, .float .f64 0, .float .f64 0, .int .i64 0, .float .f64 0] 43)).alloc (.cells #[.float .f64 0, .float .f64 0, .float .f64 0, .float .f64 0, .float .f64 0] 45)) [.float .f64 0, .float .f64 0, .float .f64 0, .float .f64 0, .float .f64 0] 45; rw [World.size_alloc, World.size_alloc] at h; exact h); have tB : Bel u5 (((u5.alloc (.cells #[.int .i64 0, .int .i64 0, .float .f64 0, .float .f64 0, .float .f64 0, .float .f64 0, .float .f64 0, .float .f64 0, .float .f64 0, .float .f64 0, .float .f64 0, .float .f64 0, .int .i64 0, .float .f64 0] 43)).alloc (.cells #[.float .f64 0, .float .f64 0, .float .f64 0, .float .f64 0, .float .f64 0] 45)).alloc (.cells #[.float .f64 0, .float .f64 0, .float .f64 0, .float .f64 0, .float .f64 0] 45)) := bl_alloc (bl_alloc (bl_alloc (bl_refl _) _ _) _ _) _ _) | ((with_reducible show Oper.wp _ { dst := _, op := Op.store 43 _ _, type := _, pos := _, after := _, guard := _ } _ _ _ _); refine wp_store_abs (P := Try.prog) 43 _ _ rfl (u5.heap.size) 0 #[.int .i64 R.ra, .int .i64 R.rb, .float .f64 R.r2, .float .f64 R.r3, .float .f64 R.r4, .float .f64 R.r5, .float .f64 R.r6, .float .f64 R.r7, .float .f64 R.r8, .float .f64 R.r9, .float .f64 R.r10, .float .f64 q, .int .i64 R.ro, .float .f64 R.r13] rfl rfl t0 (by kernel_rfl) (by kernel_rfl) (fun V => Bel u5 V ∧ V.rangeAt (u5.heap.size) 0 [.int .i64 R.ra, .int .i64 R.rb, .float .f64 R.r2, .float .f64 R.r3, .float .f64 R.r4, .float .f64 R.r5, .float .f64 R.r6, .float .f64 R.r7, .float .f64 R.r8, .float .f64 R.r9, .float .f64 R.r10, .float .f64 q, .int .i64 R.ro, .float .f64 R.r13] ∧ V.there (u5.heap.size + 1) 0 5 ∧ V.there (u5.heap.size + 1 + 1) 0 5) ⟨bel_setsJ _ _ tB (Nat.le_refl _), World.rangeAt_setCells_same _ _ _ _ t0, World.there_setCells t1 _ _ _, World.there_setCells t2 _ _ _⟩ ?_; rintro V1 ⟨C1, r0, t3, t4⟩; simp only [go_sem]) | ((with_reducible show Oper.wp _ { dst := _, op := Op.store 45 _ _, type := _, pos := _, after := _, guard := _ } _ _ _ _); refine wp_store_abs (P := Try.prog) 45 _ _ rfl (u5.heap.size + 1) 0 #[.float .f64 a.sm, .float .f64 a.si, .float .f64 v0, .float .f64 v1, .float .f64 v2] rfl rfl t3 (by kernel_rfl) (by kernel_rfl) (fun V => Bel u5 V ∧ V.rangeAt (u5.heap.size) 0 [.int .i64 R.ra, .int .i64 R.rb, .float .f64 R.r2, .float .f64 R.r3, .float .f64 R.r4, .float .f64 R.r5, .float .f64 R.r6, .float .f64 R.r7, .float .f64 R.r8, .float .f64 R.r9, .float .f64 R.r10, .float .f64 q, .int .i64 R.ro, .float .f64 R.r13] ∧ V.rangeAt (u5.heap.size + 1) 0 [.float .f64 a.sm, .float .f64 a.si, .float .f64 v0, .float .f64 v1, .float .f64 v2] ∧ V.there (u5.heap.size + 1 + 1) 0 5) ⟨bel_setsJ _ _ C1 (by omega), World.rangeAt_setCells_apart r0 _ _ _ (.inl (by omega)), World.rangeAt_setCells_same _ _ _ _ t3, World.there_setCells t4 _ _ _⟩ ?_; rintro V2 ⟨C2, r1, r2, t5⟩; simp only [go_sem]) | ((with_reducible show Oper.wp _ { dst := _, op := Op.store 45 _ _, type := _, pos := _, after := _, guard := _ } _ _ _ _); refine wp_store_abs (P := Try.prog) 45 _ _ rfl (u5.heap.size + 1 + 1) 0 #[.float .f64 b.sm, .float .f64 b.si, .float .f64 v3, .float .f64 v4, .float .f64 v5] rfl rfl t5 (by kernel_rfl) (by kernel_rfl) (fun V => Bel u5 V ∧ V.rangeAt (u5.heap.size) 0 [.int .i64 R.ra, .int .i64 R.rb, .float .f64 R.r2, .float .f64 R.r3, .float .f64 R.r4, .float .f64 R.r5, .float .f64 R.r6, .float .f64 R.r7, .float .f64 R.r8, .float .f64 R.r9, .float .f64 R.r10, .float .f64 q, .int .i64 R.ro, .float .f64 R.r13] ∧ V.rangeAt (u5.heap.size + 1) 0 [.float .f64 a.sm, .float .f64 a.si, .float .f64 v0, .float .f64 v1, .float .f64 v2] ∧ V.rangeAt (u5.heap.size + 1 + 1) 0 [.float .f64 b.sm, .float .f64 b.si, .float .f64 v3, .float .f64 v4, .float .f64 v5]) ⟨bel_setsJ _ _ C2 (by omega), World.rangeAt_setCells_apart r1 _ _ _ (.inl (by omega)), World.rangeAt_setCells_apart r2 _ _ _ (.inl (by omega)), World.rangeAt_setCells_same _ _ _ _ t5⟩ ?_; rintro V9 ⟨C3, oR0, oR1, oR2⟩; replace hR := rng_bel hR C3; replace hA := rng_bel hA C3; replace hBb := rng_bel hBb C3; replace BB := bl_trans BB C3; replace hT := rng_bel hT C3; clear t0 t1 t2 tB C1 r0 t3 t4 C2 r1 r2 t5; have hz9 : u5.heap.size + 1 + 1 < V9.heap.size := World.block_lt_of_cell? _ _ (oR2 0 _ rfl); simp only [go_sem]) | go_values | go_skip | go_guarded | go_step | go_upon | go_back | dsimp only)
      refine wp_region_inv 20 rfl (fun L s W => (∀ j, j < 20 → L j = true → (V20 p T a b A B q' uu0 y1 uu3 uu4 v2 v5) j (s j)) ∧ (J20 V9 W (L 13) (L 16) (L 14) (L 17) (L 15) (L 18) (s 13) (s 14) (s 15) [.int .i64 T.ra, .int .i64 T.rb, .float .f64 T.r2, .float .f64 T.r3, .float .f64 T.r4, .float .f64 T.r5, .float .f64 T.r6, .float .f64 T.r7, .float .f64 T.r8, .float .f64 T.r9, .float .f64 T.r10, .float .f64 q', .int .i64 T.ro, .float .f64 T.r13] [.float .f64 A.sm, .float .f64 A.si, .float .f64 uu0, .float .f64 y1, .float .f64 v2] [.float .f64 B.sm, .float .f64 B.si, .float .f64 uu3, .float .f64 uu4, .float .f64 v5])) ?A_m20 (by kernel_rfl) (by kernel_rfl) ?hA_m20 ?h0_m20 ?hq_m20 ?hJ_m20 ?ht_m20
      case hA_m20 =>
        intro s
        simp only [putL, dstO, Act.put, List.getElem?_toArray, List.getElem?_cons_zero, List.getElem?_cons_succ, Option.bind_some, List.setIfInBounds_toArray, List.set_cons_zero, List.set_cons_succ, if_true]
        all_goals exact rfl
      case h0_m20 => exact ⟨fun j _ h => (by cases h), ⟨bl_drew (bl_refl _), fun h => (by cases h), fun h => (by cases h), fun h => (by cases h), fun h => (by cases h), fun h => (by cases h), fun h => (by cases h)⟩⟩
      case hJ_m20 =>
        intro L L' s W h hj
        refine ⟨fun j hj2 hl => hj.1 j hj2 ((h j hj2).trans hl), ?_⟩
        have hj2 := hj.2
        rw [h 13 (by decide), h 16 (by decide), h 14 (by decide), h 17 (by decide), h 15 (by decide), h 18 (by decide)] at hj2
        exact hj2
      case hq_m20 =>
        intro i o hi ho L s W hLi hd hsh hj K hK
        obtain ⟨hV, hW⟩ := hj
        rcases (show i = 0 ∨ i = 1 ∨ i = 2 ∨ i = 3 ∨ i = 4 ∨ i = 5 ∨ i = 6 ∨ i = 7 ∨ i = 8 ∨ i = 9 ∨ i = 10 ∨ i = 11 ∨ i = 12 ∨ i = 13 ∨ i = 14 ∨ i = 15 ∨ i = 16 ∨ i = 17 ∨ i = 18 ∨ i = 19 by omega) with rfl | rfl | rfl | rfl | rfl | rfl | rfl | rfl | rfl | rfl | rfl | rfl | rfl | rfl | rfl | rfl | rfl | rfl | rfl | rfl
        · cases ho
          simp only [Act.put, List.setIfInBounds_toArray, List.set_cons_zero, List.set_cons_succ] at hK
          refine wp_load_mid (P := Try.prog) 43 _ rfl (u1.heap.size) 0 rfl [.int .i64 T.ra, .int .i64 T.rb, .float .f64 T.r2, .float .f64 T.r3, .float .f64 T.r4, .float .f64 T.r5, .float .f64 T.r6, .float .f64 T.r7, .float .f64 T.r8, .float .f64 T.r9, .float .f64 T.r10, .float .f64 T.r11, .int .i64 T.ro, .float .f64 T.r13] _ (rng_bel hT hW.b) Try.underlying43 rfl (by kernel_rfl) ?_
          exact hK.out _ _ ⟨val_upd (VAL := (V20 p T a b A B q' uu0 y1 uu3 uu4 v2 v5)) hV rfl, hW⟩
        · cases ho
          simp only [Act.put, List.setIfInBounds_toArray, List.set_cons_zero, List.set_cons_succ] at hK
          refine wp_load_mid (P := Try.prog) 45 _ rfl (w.heap.size + 1) 0 rfl [.float .f64 a.sm, .float .f64 a.si, .float .f64 a.sx, .float .f64 a.sy, .float .f64 a.ss] _ (rng_bel hA hW.b) Try.underlying45 rfl (by kernel_rfl) ?_
          exact hK.out _ _ ⟨val_upd (VAL := (V20 p T a b A B q' uu0 y1 uu3 uu4 v2 v5)) hV rfl, hW⟩
        · cases ho
          simp only [Act.put, List.setIfInBounds_toArray, List.set_cons_zero, List.set_cons_succ] at hK
          go_simp
          all_goals first | with_reducible exact hK.out _ _ ⟨val_upd (VAL := (V20 p T a b A B q' uu0 y1 uu3 uu4 v2 v5)) hV rfl, hW⟩ | exact hK.out _ _ ⟨val_upd (VAL := (V20 p T a b A B q' uu0 y1 uu3 uu4 v2 v5)) hV rfl, hW⟩
        · cases ho
          have e1 : s 1 = _ := hV 1 (by decide) (hd 1 (by kernel_rfl))
          have e2 : s 2 = _ := hV 2 (by decide) (hd 2 (by kernel_rfl))
          simp only [e1, e2] at hK ⊢
          simp only [Act.put, List.setIfInBounds_toArray, List.set_cons_zero, List.set_cons_succ] at hK
          go_simp
          all_goals (try go_wp2_with (first | (go_at_call 25; (with_reducible refine (hLA _).mono ?_); rintro e w' ⟨rfl, hb1⟩)))
          all_goals exact hK.out _ _ ⟨val_upd (VAL := (V20 p T a b A B q' uu0 y1 uu3 uu4 v2 v5)) hV rfl, hW.bel hb1⟩
        · cases ho
          simp only [Act.put, List.setIfInBounds_toArray, List.set_cons_zero, List.set_cons_succ] at hK
          refine wp_load_mid (P := Try.prog) 45 _ rfl (w.heap.size + 1 + 1) 0 rfl [.float .f64 b.sm, .float .f64 b.si, .float .f64 b.sx, .float .f64 b.sy, .float .f64 b.ss] _ (rng_bel hBb hW.b) Try.underlying45 rfl (by kernel_rfl) ?_
          exact hK.out _ _ ⟨val_upd (VAL := (V20 p T a b A B q' uu0 y1 uu3 uu4 v2 v5)) hV rfl, hW⟩
        · cases ho
          simp only [Act.put, List.setIfInBounds_toArray, List.set_cons_zero, List.set_cons_succ] at hK
          go_simp
          all_goals first | with_reducible exact hK.out _ _ ⟨val_upd (VAL := (V20 p T a b A B q' uu0 y1 uu3 uu4 v2 v5)) hV rfl, hW⟩ | exact hK.out _ _ ⟨val_upd (VAL := (V20 p T a b A B q' uu0 y1 uu3 uu4 v2 v5)) hV rfl, hW⟩
        · cases ho
          have e4 : s 4 = _ := hV 4 (by decide) (hd 4 (by kernel_rfl))
          have e5 : s 5 = _ := hV 5 (by decide) (hd 5 (by kernel_rfl))
          simp only [e4, e5] at hK ⊢
          simp only [Act.put, List.setIfInBounds_toArray, List.set_cons_zero, List.set_cons_succ] at hK
          go_simp
          all_goals (try go_wp2_with (first | (go_at_call 25; (with_reducible refine (hLB _).mono ?_); rintro e w' ⟨rfl, hb1⟩)))
          all_goals exact hK.out _ _ ⟨val_upd (VAL := (V20 p T a b A B q' uu0 y1 uu3 uu4 v2 v5)) hV rfl, hW.bel hb1⟩
        · cases ho
          have e0 : s 0 = _ := hV 0 (by decide) (hd 0 (by kernel_rfl))
          have e3 : s 3 = _ := hV 3 (by decide) (hd 3 (by kernel_rfl))
          have e6 : s 6 = _ := hV 6 (by decide) (hd 6 (by kernel_rfl))
          simp only [e0, e3, e6] at hK ⊢
          simp only [Act.put, List.setIfInBounds_toArray, List.set_cons_zero, List.set_cons_succ] at hK
          go_simp
          all_goals (try go_wp2_with (first | (go_at_call 18; (with_reducible refine (hO2 _).mono ?_); rintro e w' ⟨rfl, hb1⟩)))
          all_goals exact hK.out _ _ ⟨val_upd (VAL := (V20 p T a b A B q' uu0 y1 uu3 uu4 v2 v5)) hV rfl, hW.bel hb1⟩
        · cases ho
          have e7 : s 7 = _ := hV 7 (by decide) (hd 7 (by kernel_rfl))
          simp only [e7] at hK ⊢
          simp only [Act.put, List.setIfInBounds_toArray, List.set_cons_zero, List.set_cons_succ] at hK
          go_simp
          all_goals first | with_reducible exact hK.out _ _ ⟨val_upd (VAL := (V20 p T a b A B q' uu0 y1 uu3 uu4 v2 v5)) hV rfl, hW⟩ | exact hK.out _ _ ⟨val_upd (VAL := (V20 p T a b A B q' uu0 y1 uu3 uu4 v2 v5)) hV rfl, hW⟩
        · cases ho
          have e8 : s 8 = _ := hV 8 (by decide) (hd 8 (by kernel_rfl))
          simp only [e8] at hK ⊢
          simp only [Act.put, List.setIfInBounds_toArray, List.set_cons_zero, List.set_cons_succ] at hK
          go_simp
          all_goals first | with_reducible exact hK.out _ _ ⟨val_upd (VAL := (V20 p T a b A B q' uu0 y1 uu3 uu4 v2 v5)) hV rfl, hW⟩ | exact hK.out _ _ ⟨val_upd (VAL := (V20 p T a b A B q' uu0 y1 uu3 uu4 v2 v5)) hV rfl, hW⟩
        · cases ho
          have e8 : s 8 = _ := hV 8 (by decide) (hd 8 (by kernel_rfl))
          simp only [e8] at hK ⊢
          simp only [Act.put, List.setIfInBounds_toArray, List.set_cons_zero, List.set_cons_succ] at hK
          go_simp
          all_goals first | with_reducible exact hK.out _ _ ⟨val_upd (VAL := (V20 p T a b A B q' uu0 y1 uu3 uu4 v2 v5)) hV rfl, hW⟩ | exact hK.out _ _ ⟨val_upd (VAL := (V20 p T a b A B q' uu0 y1 uu3 uu4 v2 v5)) hV rfl, hW⟩
        · cases ho
          have e8 : s 8 = _ := hV 8 (by decide) (hd 8 (by kernel_rfl))
          simp only [e8] at hK ⊢
          simp only [Act.put, List.setIfInBounds_toArray, List.set_cons_zero, List.set_cons_succ] at hK
          go_simp
          all_goals first | with_reducible exact hK.out _ _ ⟨val_upd (VAL := (V20 p T a b A B q' uu0 y1 uu3 uu4 v2 v5)) hV rfl, hW⟩ | exact hK.out _ _ ⟨val_upd (VAL := (V20 p T a b A B q' uu0 y1 uu3 uu4 v2 v5)) hV rfl, hW⟩
        · cases ho
          have e8 : s 8 = _ := hV 8 (by decide) (hd 8 (by kernel_rfl))
          simp only [e8] at hK ⊢
          simp only [Act.put, List.setIfInBounds_toArray, List.set_cons_zero, List.set_cons_succ] at hK
          go_simp
          all_goals first | with_reducible exact hK.out _ _ ⟨val_upd (VAL := (V20 p T a b A B q' uu0 y1 uu3 uu4 v2 v5)) hV rfl, hW⟩ | exact hK.out _ _ ⟨val_upd (VAL := (V20 p T a b A B q' uu0 y1 uu3 uu4 v2 v5)) hV rfl, hW⟩
        · cases ho
          simp only [Act.put, List.setIfInBounds_toArray, List.set_cons_zero, List.set_cons_succ] at hK
          have hs9 : L 16 = false := by cases h9 : L 16; rfl; have := hsh 16 13 (by decide) h9 (by kernel_rfl); rw [hLi] at this; cases this
          go_simp
          exact hK.out _ _ ⟨val_upd (VAL := (V20 p T a b A B q' uu0 y1 uu3 uu4 v2 v5)) hV trivial, hW.al1 (c := #[.int .i64 0, .int .i64 0, .float .f64 0, .float .f64 0, .float .f64 0, .float .f64 0, .float .f64 0, .float .f64 0, .float .f64 0, .float .f64 0, .float .f64 0, .float .f64 0, .int .i64 0, .float .f64 0]) (t := 43) hs9 rfl (Nat.succ_pos _) (Nat.succ_pos _)⟩
        · cases ho
          simp only [Act.put, List.setIfInBounds_toArray, List.set_cons_zero, List.set_cons_succ] at hK
          have hs9 : L 17 = false := by cases h9 : L 17; rfl; have := hsh 17 14 (by decide) h9 (by kernel_rfl); rw [hLi] at this; cases this
          go_simp
          exact hK.out _ _ ⟨val_upd (VAL := (V20 p T a b A B q' uu0 y1 uu3 uu4 v2 v5)) hV trivial, hW.al2 (c := #[.float .f64 0, .float .f64 0, .float .f64 0, .float .f64 0, .float .f64 0]) (t := 45) hs9 rfl (Nat.succ_pos _) (Nat.succ_pos _)⟩
        · cases ho
          simp only [Act.put, List.setIfInBounds_toArray, List.set_cons_zero, List.set_cons_succ] at hK
          have hs9 : L 18 = false := by cases h9 : L 18; rfl; have := hsh 18 15 (by decide) h9 (by kernel_rfl); rw [hLi] at this; cases this
          go_simp
          exact hK.out _ _ ⟨val_upd (VAL := (V20 p T a b A B q' uu0 y1 uu3 uu4 v2 v5)) hV trivial, hW.al3 (c := #[.float .f64 0, .float .f64 0, .float .f64 0, .float .f64 0, .float .f64 0]) (t := 45) hs9 rfl (Nat.succ_pos _) (Nat.succ_pos _)⟩
        · cases ho
          have e9 : s 9 = _ := hV 9 (by decide) (hd 9 (by kernel_rfl))
          simp only [e9] at hK ⊢
          simp only [Act.put, List.setIfInBounds_toArray, List.set_cons_zero, List.set_cons_succ] at hK
          obtain ⟨pp, ev, tp, hj⟩ := hW.pu1 (hd 13 (by kernel_rfl))
          simp only [ev] at hK ⊢
          refine wp_store_abs (P := Try.prog) 43 _ _ rfl pp 0 #[.int .i64 T.ra, .int .i64 T.rb, .float .f64 T.r2, .float .f64 T.r3, .float .f64 T.r4, .float .f64 T.r5, .float .f64 T.r6, .float .f64 T.r7, .float .f64 T.r8, .float .f64 T.r9, .float .f64 T.r10, .float .f64 q', .int .i64 T.ro, .float .f64 T.r13] rfl rfl tp (by kernel_rfl) (by kernel_rfl) (fun V => V = W.setCells pp 0 [.int .i64 T.ra, .int .i64 T.rb, .float .f64 T.r2, .float .f64 T.r3, .float .f64 T.r4, .float .f64 T.r5, .float .f64 T.r6, .float .f64 T.r7, .float .f64 T.r8, .float .f64 T.r9, .float .f64 T.r10, .float .f64 q', .int .i64 T.ro, .float .f64 T.r13]) rfl ?_
          rintro _ rfl
          exact hK.out undef _ ⟨val_upd (VAL := (V20 p T a b A B q' uu0 y1 uu3 uu4 v2 v5)) hV trivial, hj⟩
        · cases ho
          have e10 : s 10 = _ := hV 10 (by decide) (hd 10 (by kernel_rfl))
          simp only [e10] at hK ⊢
          simp only [Act.put, List.setIfInBounds_toArray, List.set_cons_zero, List.set_cons_succ] at hK
          obtain ⟨pp, ev, tp, hj⟩ := hW.pu2 (hd 14 (by kernel_rfl))
          simp only [ev] at hK ⊢
          refine wp_store_abs (P := Try.prog) 45 _ _ rfl pp 0 #[.float .f64 A.sm, .float .f64 A.si, .float .f64 uu0, .float .f64 y1, .float .f64 v2] rfl rfl tp (by kernel_rfl) (by kernel_rfl) (fun V => V = W.setCells pp 0 [.float .f64 A.sm, .float .f64 A.si, .float .f64 uu0, .float .f64 y1, .float .f64 v2]) rfl ?_
          rintro _ rfl
          exact hK.out undef _ ⟨val_upd (VAL := (V20 p T a b A B q' uu0 y1 uu3 uu4 v2 v5)) hV trivial, hj⟩
        · cases ho
          have e11 : s 11 = _ := hV 11 (by decide) (hd 11 (by kernel_rfl))
          simp only [e11] at hK ⊢
          simp only [Act.put, List.setIfInBounds_toArray, List.set_cons_zero, List.set_cons_succ] at hK
          obtain ⟨pp, ev, tp, hj⟩ := hW.pu3 (hd 15 (by kernel_rfl))
          simp only [ev] at hK ⊢
          refine wp_store_abs (P := Try.prog) 45 _ _ rfl pp 0 #[.float .f64 B.sm, .float .f64 B.si, .float .f64 uu3, .float .f64 uu4, .float .f64 v5] rfl rfl tp (by kernel_rfl) (by kernel_rfl) (fun V => V = W.setCells pp 0 [.float .f64 B.sm, .float .f64 B.si, .float .f64 uu3, .float .f64 uu4, .float .f64 v5]) rfl ?_
          rintro _ rfl
          exact hK.out undef _ ⟨val_upd (VAL := (V20 p T a b A B q' uu0 y1 uu3 uu4 v2 v5)) hV trivial, hj⟩
        · cases ho
          have e12 : s 12 = _ := hV 12 (by decide) (hd 12 (by kernel_rfl))
          simp only [e12] at hK ⊢
          simp only [Act.put, List.setIfInBounds_toArray, List.set_cons_zero, List.set_cons_succ] at hK
          go_simp
          all_goals first | with_reducible exact hK.out _ _ ⟨val_upd (VAL := (V20 p T a b A B q' uu0 y1 uu3 uu4 v2 v5)) hV rfl, hW⟩ | exact hK.out _ _ ⟨val_upd (VAL := (V20 p T a b A B q' uu0 y1 uu3 uu4 v2 v5)) hV rfl, hW⟩
      case ht_m20 =>
        intro s W hj
        obtain ⟨hV, hW⟩ := hj
        have e0 : s 0 = _ := hV 0 (by decide) rfl
        have e1 : s 1 = _ := hV 1 (by decide) rfl
        have e2 : s 2 = _ := hV 2 (by decide) rfl
        have e3 : s 3 = _ := hV 3 (by decide) rfl
        have e4 : s 4 = _ := hV 4 (by decide) rfl
        have e5 : s 5 = _ := hV 5 (by decide) rfl
        have e6 : s 6 = _ := hV 6 (by decide) rfl
        have e7 : s 7 = _ := hV 7 (by decide) rfl
        have e8 : s 8 = _ := hV 8 (by decide) rfl
        have e9 : s 9 = _ := hV 9 (by decide) rfl
        have e10 : s 10 = _ := hV 10 (by decide) rfl
        have e11 : s 11 = _ := hV 11 (by decide) rfl
        have e12 : s 12 = _ := hV 12 (by decide) rfl
        have e19 : s 19 = _ := hV 19 (by decide) rfl
        simp only [e0, e1, e2, e3, e4, e5, e6, e7, e8, e9, e10, e11, e12, e19]
        clear hV e0 e1 e2 e3 e4 e5 e6 e7 e8 e9 e10 e11 e12 e19
        obtain ⟨p13, e13, n13, th13, q13⟩ := hW.x1 rfl
        obtain ⟨p14, e14, n14, th14, q14⟩ := hW.x2 rfl
        obtain ⟨p15, e15, n15, th15, q15⟩ := hW.x3 rfl
        simp only [e13, e14, e15]
        have qR0 := q13 rfl
        have qR1 := q14 rfl
        have qR2 := q15 rfl
        have hb := hW.b
        replace BB := bl_trans BB hb
        replace oR0 := rng_bel oR0 hb; replace oR1 := rng_bel oR1 hb; replace oR2 := rng_bel oR2 hb
        clear hW hb e13 e14 e15 n13 n14 n15 th13 th14 th15 q13 q14 q15 hR hA hBb hT
        repeat (first | go_values | go_skip | go_guarded | go_step | go_upon | go_back | dsimp only)
        have kq : W.cell? ⟨u5.heap.size, 11, none⟩ = some (.float .f64 q) := by have h := oR0 11 _ rfl; rwa [Nat.zero_add] at h
        have kQ : W.cell? ⟨p13, 11, none⟩ = some (.float .f64 q') := by have h := qR0 11 _ rfl; rwa [Nat.zero_add] at h
        have ka2 : W.cell? ⟨u5.heap.size + 1, 2, none⟩ = some (.float .f64 v0) := by have h := oR1 2 _ rfl; rwa [Nat.zero_add] at h
        have ka3 : W.cell? ⟨u5.heap.size + 1, 3, none⟩ = some (.float .f64 v1) := by have h := oR1 3 _ rfl; rwa [Nat.zero_add] at h
        have ka4 : W.cell? ⟨u5.heap.size + 1, 4, none⟩ = some (.float .f64 v2) := by have h := oR1 4 _ rfl; rwa [Nat.zero_add] at h
        have kb2 : W.cell? ⟨u5.heap.size + 1 + 1, 2, none⟩ = some (.float .f64 v3) := by have h := oR2 2 _ rfl; rwa [Nat.zero_add] at h
        have kb3 : W.cell? ⟨u5.heap.size + 1 + 1, 3, none⟩ = some (.float .f64 v4) := by have h := oR2 3 _ rfl; rwa [Nat.zero_add] at h
        have kb4 : W.cell? ⟨u5.heap.size + 1 + 1, 4, none⟩ = some (.float .f64 v5) := by have h := oR2 4 _ rfl; rwa [Nat.zero_add] at h
        have kA2 : W.cell? ⟨p14, 2, none⟩ = some (.float .f64 uu0) := by have h := qR1 2 _ rfl; rwa [Nat.zero_add] at h
        have kA3 : W.cell? ⟨p14, 3, none⟩ = some (.float .f64 y1) := by have h := qR1 3 _ rfl; rwa [Nat.zero_add] at h
        have kA4 : W.cell? ⟨p14, 4, none⟩ = some (.float .f64 v2) := by have h := qR1 4 _ rfl; rwa [Nat.zero_add] at h
        have kB2 : W.cell? ⟨p15, 2, none⟩ = some (.float .f64 uu3) := by have h := qR2 2 _ rfl; rwa [Nat.zero_add] at h
        have kB3 : W.cell? ⟨p15, 3, none⟩ = some (.float .f64 uu4) := by have h := qR2 3 _ rfl; rwa [Nat.zero_add] at h
        have kB4 : W.cell? ⟨p15, 4, none⟩ = some (.float .f64 v5) := by have h := qR2 4 _ rfl; rwa [Nat.zero_add] at h
        have BN := belBy_some W
        replace kq := belBy_cell (W := W) kq
        replace kQ := belBy_cell (W := W) kQ
        replace ka2 := belBy_cell (W := W) ka2
        replace ka3 := belBy_cell (W := W) ka3
        replace ka4 := belBy_cell (W := W) ka4
        replace kb2 := belBy_cell (W := W) kb2
        replace kb3 := belBy_cell (W := W) kb3
        replace kb4 := belBy_cell (W := W) kb4
        replace kA2 := belBy_cell (W := W) kA2
        replace kA3 := belBy_cell (W := W) kA3
        replace kA4 := belBy_cell (W := W) kA4
        replace kB2 := belBy_cell (W := W) kB2
        replace kB3 := belBy_cell (W := W) kB3
        replace kB4 := belBy_cell (W := W) kB4
        have lv1 : ∀ p : BelBy W, (Instr.loadAt 26 (.pointer (some ⟨u5.heap.size + 1, 2, none⟩))).run Try.prog p.world = .ok (.agg #[.float .f64 v0, .float .f64 v1]) p.world := fun p => run_loadAt_mid p.world (u5.heap.size + 1) 2 26 [.float .f64 v0, .float .f64 v1] _ (rng_sub23 (rng_bel oR1 p.h)) Try.underlying26 rfl (by kernel_rfl)
        have lv2 : ∀ p : BelBy W, (Instr.loadAt 26 (.pointer (some ⟨u5.heap.size + 1 + 1, 2, none⟩))).run Try.prog p.world = .ok (.agg #[.float .f64 v3, .float .f64 v4]) p.world := fun p => run_loadAt_mid p.world (u5.heap.size + 1 + 1) 2 26 [.float .f64 v3, .float .f64 v4] _ (rng_sub23 (rng_bel oR2 p.h)) Try.underlying26 rfl (by kernel_rfl)
        have lv3 : ∀ p : BelBy W, (Instr.loadAt 26 (.pointer (some ⟨p14, 2, none⟩))).run Try.prog p.world = .ok (.agg #[.float .f64 uu0, .float .f64 y1]) p.world := fun p => run_loadAt_mid p.world (p14) 2 26 [.float .f64 uu0, .float .f64 y1] _ (rng_sub23 (rng_bel qR1 p.h)) Try.underlying26 rfl (by kernel_rfl)
        have lv4 : ∀ p : BelBy W, (Instr.loadAt 26 (.pointer (some ⟨p15, 2, none⟩))).run Try.prog p.world = .ok (.agg #[.float .f64 uu3, .float .f64 uu4]) p.world := fun p => run_loadAt_mid p.world (p15) 2 26 [.float .f64 uu3, .float .f64 uu4] _ (rng_sub23 (rng_bel qR2 p.h)) Try.underlying26 rfl (by kernel_rfl)
        have qe1 : ∀ W : World, (binOp .eql 26 (.agg #[.float .f64 uu0, .float .f64 y1]) (.agg #[.float .f64 uu0, .float .f64 y1])).run Try.prog W = .ok (.bool true) W := fun W => by rw [run_eqv20, eu0, eu1]; rfl
        have qe2 : ∀ W : World, (binOp .eql 26 (.agg #[.float .f64 uu3, .float .f64 uu4]) (.agg #[.float .f64 uu3, .float .f64 uu4])).run Try.prog W = .ok (.bool true) W := fun W => by rw [run_eqv20, eu3, eu4]; rfl
        clear hLA hLB hS1 hS2 hW1 hW2 hO1 hO2 xfr6 xfr7 xfr8 xfr11a xfr11b xfr11 xfr9a xfr9b xfr9 xfr10a xfr10b xfr10 xgS xgW xgX oR0 oR1 oR2 qR0 qR1 qR2 us_al k esq ewq
        refine wp_region_quiet_bel (by kernel_rfl) (by kernel_rfl) ?_
        repeat (go_big_quiet_step (first | (go_at_call 26; with_reducible exact calls_bel (hs1 _)) | (go_at_call 26; with_reducible exact calls_bel (hs2 _))))
        refine wpQuiet_nil ?_
        rintro _ ⟨pW, rfl⟩
        repeat (first | go_values | go_skip | go_guarded | go_step | go_upon | go_back | dsimp only)
        go_ret
        exact ⟨rfl, bl_trans BB pW.h⟩

end Go.Proofs.Ytfohggiehbplkaa
