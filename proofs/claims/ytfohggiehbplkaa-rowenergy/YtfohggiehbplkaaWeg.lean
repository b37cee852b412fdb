/-
  What each function of package poly answers, and what the reference of its chapter answers: one contract a function, for every float: the answer stands in the relation of its formula to what was given; of the memory that was there nothing has turned.
-/
import Derived.Test.YtfohggiehbplkaaVec
import Derived.Test.YtfohggiehbplkaaWec
import Derived.Below
import Derived.WalkKit
import Derived.WalkLawsBesides
import Derived.WalkSpells
import Derived.ProofKit
import Derived.OpenShut
import Derived.Deep.RegionHeld3
namespace Go.Proofs.Ytfohggiehbplkaa
open Go.ChangeShapes Go.WideShapes Go.ChangeAt Go.RowKit
set_option linter.unusedVariables false
set_option linter.unusedSimpArgs false

set_option maxRecDepth 100000 in
set_option maxHeartbeats 16000000 in
theorem re_sol (R0 R : RD) (a0 a b0 b : SD) (w : World) (oR0 : rok R0) (oa0 : sok a0) (ob0 : sok b0) (hT : Teq R0 R) (hA2 : Seq9 a0 a) (hB2 : Seq9 b0 b) (h1 : ltK .f64 R.r11 R.r9 = false) (h2 : ltK .f64 R.r10 R.r11 = false) (hw : ltK .f64 0 (wtF R a b) = true) (e8 : R.r8 = 0) : Calls Try.prog 5 #[.agg #[.int .i64 R0.ra, .int .i64 R0.rb, .float .f64 R0.r2, .float .f64 R0.r3, .float .f64 R0.r4, .float .f64 R0.r5, .float .f64 R0.r6, .float .f64 R0.r7, .float .f64 R0.r8, .float .f64 R0.r9, .float .f64 R0.r10, .float .f64 R0.r11, .int .i64 R0.ro, .float .f64 R0.r13], .agg #[.float .f64 a0.sm, .float .f64 a0.si, .float .f64 a0.sx, .float .f64 a0.sy, .float .f64 a0.ss], .agg #[.float .f64 b0.sm, .float .f64 b0.si, .float .f64 b0.sx, .float .f64 b0.sy, .float .f64 b0.ss]] w fun e w' => e = .returned (.bool true) ∧ Bel w w' := by
  have eT : ∃ X, X = R.r8 ∧ X = 0 := ⟨_, rfl, e8⟩
  clear e8
  obtain ⟨hR, hRt, hA, hAt, hBb, hBbt, BB, hz0⟩ := frm0 R0 a0 b0 w
  have oR := teq_ok hT oR0
  have oa := seq_ok hA2 oa0
  have ob := seq_ok hB2 ob0
  have cl := cmp_lt .f64
  have cg := cmp_gt .f64
  have cn := cmp_ne .f64
  have ce := cmp_eq .f64
  have cle := cmp_le2 .f64
  have us_al : UsP R a b → alB R a b = true := fun h => by unfold alB; rw [h.may, (us_st h oa ob).1, (us_st h oa ob).2]; rfl
  go_enter Try.func5, Try.ntmps5
  repeat (first | (go_at_call 9; refine (alive20 _).mono ?_; rintro e u0 ⟨rfl, bal⟩; replace hR := rng_bel hR bal; replace hA := rng_bel hA bal; replace hBb := rng_bel hBb bal; replace BB := bl_trans BB bal; replace hRt := bel_there hRt bal; replace hAt := bel_there hAt bal; replace hBbt := bel_there hBbt bal; clear bal) | ((with_reducible show Oper.wp _ { dst := _, op := Op.store 24 _ _, type := _, pos := _, after := _, guard := _ } _ _ _ _); refine wp_put_f (P := Try.prog) 24 _ _ rfl (w.heap.size) 8 14 0 rfl rfl hRt (by decide) (by kernel_rfl) (fun V => Bel w V ∧ V.rangeAt (w.heap.size) 0 [.int .i64 R0.ra, .int .i64 R0.rb, .float .f64 R0.r2, .float .f64 R0.r3, .float .f64 R0.r4, .float .f64 R0.r5, .float .f64 R0.r6, .float .f64 R0.r7, .float .f64 0, .float .f64 R0.r9, .float .f64 R0.r10, .float .f64 R0.r11, .int .i64 R0.ro, .float .f64 R0.r13] ∧ V.rangeAt (w.heap.size + 1) 0 [.float .f64 a0.sm, .float .f64 a0.si, .float .f64 a0.sx, .float .f64 a0.sy, .float .f64 a0.ss] ∧ V.rangeAt (w.heap.size + 1 + 1) 0 [.float .f64 b0.sm, .float .f64 b0.si, .float .f64 b0.sx, .float .f64 b0.sy, .float .f64 b0.ss] ∧ V.there (w.heap.size + 1) 0 5 ∧ V.there (w.heap.size + 1 + 1) 0 5) ⟨bl_set BB (Nat.le_refl _), rng_put hR, rng_set_far hA (by simp), rng_set_far hBb (by simp <;> omega), thr_put hAt, thr_put hBbt⟩ ?_; clear hR hRt hA hBb hAt hBbt BB; rintro V8 ⟨BB, hR, hA, hBb, hAt, hBbt⟩; rw [teq_cells hT] at hR; have hz8 : w.heap.size + 1 + 1 < V8.heap.size := World.block_lt_of_cell? _ _ (hBb 0 _ rfl); simp only [go_sem]) | go_values | go_skip | go_guarded | go_step | go_upon | go_back | dsimp only)
  go_loopw [25] (fun i wr => ∃ (k : Nat) (x y : SD), k ≤ 2 ∧ i = .int .i64 k ∧ ((k = 0 ∧ x = a0 ∧ y = b0) ∨ (k = 1 ∧ x = a ∧ y = b0) ∨ (k = 2 ∧ x = a ∧ y = b)) ∧ Bel w wr ∧ wr.rangeAt (w.heap.size) 0 [.int .i64 R.ra, .int .i64 R.rb, .float .f64 R.r2, .float .f64 R.r3, .float .f64 R.r4, .float .f64 R.r5, .float .f64 R.r6, .float .f64 R.r7, .float .f64 R.r8, .float .f64 R.r9, .float .f64 R.r10, .float .f64 R.r11, .int .i64 R.ro, .float .f64 R.r13] ∧ wr.rangeAt (w.heap.size + 1) 0 [.float .f64 x.sm, .float .f64 x.si, .float .f64 x.sx, .float .f64 x.sy, .float .f64 x.ss] ∧ wr.rangeAt (w.heap.size + 1 + 1) 0 [.float .f64 y.sm, .float .f64 y.si, .float .f64 y.sx, .float .f64 y.sy, .float .f64 y.ss] ∧ wr.there (w.heap.size + 1) 0 5 ∧ wr.there (w.heap.size + 1 + 1) 0 5 ∧ wr.rangeAt (V8.heap.size) 0 [.pointer (some ⟨w.heap.size + 1, 0, none⟩), .pointer (some ⟨w.heap.size + 1 + 1, 0, none⟩)]) (fun i _ => 2 - (intOf i).toNat)
  case atStart => exact ⟨0, a0, b0, by omega, rfl, .inl ⟨rfl, rfl, rfl⟩, bl_alloc BB _ _, World.rangeAt_alloc hR _, World.rangeAt_alloc hA _, World.rangeAt_alloc hBb _, World.there_alloc hAt _, World.there_alloc hBbt _, rng_new V8 [.pointer (some ⟨w.heap.size + 1, 0, none⟩), .pointer (some ⟨w.heap.size + 1 + 1, 0, none⟩)] _⟩
  case round =>
    clear BB hR hA hBb hAt hBbt
    obtain ⟨k, x, y, hk, rfl, hc, BB, hR, hA, hBb, hAt, hBbt, hP⟩ := hrel
    rcases hc with ⟨e1, e2, e3⟩ | ⟨e1, e2, e3⟩ | ⟨e1, e2, e3⟩
    ·
      subst e1
      rw [e2] at hA
      rw [e3] at hBb
      have p0 : wr.cell? ⟨V8.heap.size, 0, none⟩ = some (.pointer (some ⟨w.heap.size + 1, 0, none⟩)) := by have h := hP 0 _ rfl; rwa [Nat.zero_add] at h
      have c0 : wr.cell? ⟨w.heap.size + 1, 0, none⟩ = some (.float .f64 a0.sm) := by have h := hA 0 _ rfl; rwa [Nat.zero_add] at h
      have c1 : wr.cell? ⟨w.heap.size + 1, 1, none⟩ = some (.float .f64 a0.si) := by have h := hA 1 _ rfl; rwa [Nat.zero_add] at h
      have t2 := thr_sub (o := 2) (m := 2) hAt (by decide)
      simp only [show ((0 : Nat) : Int) = 0 from rfl]
      clear e2 e3
      cases h1 : eqK .f64 a0.sm 0
      · cases h2 : eqK .f64 a0.si 0
        · go_wp2
          rw [md_ff hA2 h1 h2] at hA
          exact ⟨⟨1, a, b0, by omega, rfl, .inr (.inl ⟨rfl, rfl, rfl⟩), BB, hR, hA, hBb, hAt, hBbt, hP⟩, by simp [intOf]⟩
        · repeat (first | ((with_reducible show Oper.wp _ { dst := _, op := Op.store 24 _ _, type := _, pos := _, after := _, guard := _ } _ _ _ _); refine wp_put_f (P := Try.prog) 24 _ _ rfl (w.heap.size + 1) 4 5 0 rfl rfl hAt (by decide) (by kernel_rfl) (fun V => Bel w V ∧ V.rangeAt (w.heap.size) 0 [.int .i64 R.ra, .int .i64 R.rb, .float .f64 R.r2, .float .f64 R.r3, .float .f64 R.r4, .float .f64 R.r5, .float .f64 R.r6, .float .f64 R.r7, .float .f64 R.r8, .float .f64 R.r9, .float .f64 R.r10, .float .f64 R.r11, .int .i64 R.ro, .float .f64 R.r13] ∧ V.rangeAt (w.heap.size + 1) 0 [.float .f64 a0.sm, .float .f64 a0.si, .float .f64 a0.sx, .float .f64 a0.sy, .float .f64 0] ∧ V.rangeAt (w.heap.size + 1 + 1) 0 [.float .f64 b0.sm, .float .f64 b0.si, .float .f64 b0.sx, .float .f64 b0.sy, .float .f64 b0.ss] ∧ V.there (w.heap.size + 1) 0 5 ∧ V.there (w.heap.size + 1 + 1) 0 5 ∧ V.rangeAt (V8.heap.size) 0 [.pointer (some ⟨w.heap.size + 1, 0, none⟩), .pointer (some ⟨w.heap.size + 1 + 1, 0, none⟩)]) ⟨bl_set BB (by simp <;> omega), rng_set_far hR (by simp <;> omega), rng_put hA, rng_set_far hBb (by simp <;> omega), thr_put hAt, thr_put hBbt, rng_set_far hP (by simp <;> omega)⟩ ?_; clear BB hR hA hBb hAt hBbt hP c1; rintro V10 ⟨BB, hR, hA, hBb, hAt, hBbt, hP⟩; simp only [go_sem]) | go_values | go_skip | go_guarded | go_step | go_upon | go_back | dsimp only)
          rw [md_ft hA2 h1 h2] at hA
          exact ⟨⟨1, a, b0, by omega, rfl, .inr (.inl ⟨rfl, rfl, rfl⟩), BB, hR, hA, hBb, hAt, hBbt, hP⟩, by simp [intOf]⟩
      · cases h2 : eqK .f64 a0.si 0
        · repeat (first | ((with_reducible show Oper.wp _ { dst := _, op := Op.store 26 _ _, type := _, pos := _, after := _, guard := _ } _ _ _ _); refine wp_store_abs (P := Try.prog) 26 _ _ rfl (w.heap.size + 1) 2 #[.float .f64 0, .float .f64 0] rfl rfl t2 (by kernel_rfl) (by kernel_rfl) (fun V => Bel w V ∧ V.rangeAt (w.heap.size) 0 [.int .i64 R.ra, .int .i64 R.rb, .float .f64 R.r2, .float .f64 R.r3, .float .f64 R.r4, .float .f64 R.r5, .float .f64 R.r6, .float .f64 R.r7, .float .f64 R.r8, .float .f64 R.r9, .float .f64 R.r10, .float .f64 R.r11, .int .i64 R.ro, .float .f64 R.r13] ∧ V.rangeAt (w.heap.size + 1) 0 [.float .f64 a0.sm, .float .f64 a0.si, .float .f64 0, .float .f64 0, .float .f64 a0.ss] ∧ V.rangeAt (w.heap.size + 1 + 1) 0 [.float .f64 b0.sm, .float .f64 b0.si, .float .f64 b0.sx, .float .f64 b0.sy, .float .f64 b0.ss] ∧ V.there (w.heap.size + 1) 0 5 ∧ V.there (w.heap.size + 1 + 1) 0 5 ∧ V.rangeAt (V8.heap.size) 0 [.pointer (some ⟨w.heap.size + 1, 0, none⟩), .pointer (some ⟨w.heap.size + 1 + 1, 0, none⟩)]) ⟨bel_setsJ _ _ BB (by omega), World.rangeAt_setCells_apart hR _ _ _ (.inl (by omega)), rng_put2 hA, World.rangeAt_setCells_apart hBb _ _ _ (.inl (by omega)), World.there_setCells hAt _ _ _, World.there_setCells hBbt _ _ _, World.rangeAt_setCells_apart hP _ _ _ (.inl (by omega))⟩ ?_; clear BB hR hA hBb hAt hBbt hP c0 c1 p0 t2; rintro V9 ⟨BB, hR, hA, hBb, hAt, hBbt, hP⟩; (have c1 : V9.cell? ⟨w.heap.size + 1, 1, none⟩ = some (.float .f64 a0.si) := by have h := hA 1 _ rfl; rwa [Nat.zero_add] at h); simp only [go_sem]) | go_values | go_skip | go_guarded | go_step | go_upon | go_back | dsimp only)
          rw [md_tf hA2 h1 h2] at hA
          exact ⟨⟨1, a, b0, by omega, rfl, .inr (.inl ⟨rfl, rfl, rfl⟩), BB, hR, hA, hBb, hAt, hBbt, hP⟩, by simp [intOf]⟩
        · repeat (first | ((with_reducible show Oper.wp _ { dst := _, op := Op.store 26 _ _, type := _, pos := _, after := _, guard := _ } _ _ _ _); refine wp_store_abs (P := Try.prog) 26 _ _ rfl (w.heap.size + 1) 2 #[.float .f64 0, .float .f64 0] rfl rfl t2 (by kernel_rfl) (by kernel_rfl) (fun V => Bel w V ∧ V.rangeAt (w.heap.size) 0 [.int .i64 R.ra, .int .i64 R.rb, .float .f64 R.r2, .float .f64 R.r3, .float .f64 R.r4, .float .f64 R.r5, .float .f64 R.r6, .float .f64 R.r7, .float .f64 R.r8, .float .f64 R.r9, .float .f64 R.r10, .float .f64 R.r11, .int .i64 R.ro, .float .f64 R.r13] ∧ V.rangeAt (w.heap.size + 1) 0 [.float .f64 a0.sm, .float .f64 a0.si, .float .f64 0, .float .f64 0, .float .f64 a0.ss] ∧ V.rangeAt (w.heap.size + 1 + 1) 0 [.float .f64 b0.sm, .float .f64 b0.si, .float .f64 b0.sx, .float .f64 b0.sy, .float .f64 b0.ss] ∧ V.there (w.heap.size + 1) 0 5 ∧ V.there (w.heap.size + 1 + 1) 0 5 ∧ V.rangeAt (V8.heap.size) 0 [.pointer (some ⟨w.heap.size + 1, 0, none⟩), .pointer (some ⟨w.heap.size + 1 + 1, 0, none⟩)]) ⟨bel_setsJ _ _ BB (by omega), World.rangeAt_setCells_apart hR _ _ _ (.inl (by omega)), rng_put2 hA, World.rangeAt_setCells_apart hBb _ _ _ (.inl (by omega)), World.there_setCells hAt _ _ _, World.there_setCells hBbt _ _ _, World.rangeAt_setCells_apart hP _ _ _ (.inl (by omega))⟩ ?_; clear BB hR hA hBb hAt hBbt hP c0 c1 p0 t2; rintro V9 ⟨BB, hR, hA, hBb, hAt, hBbt, hP⟩; (have c1 : V9.cell? ⟨w.heap.size + 1, 1, none⟩ = some (.float .f64 a0.si) := by have h := hA 1 _ rfl; rwa [Nat.zero_add] at h); simp only [go_sem]) | ((with_reducible show Oper.wp _ { dst := _, op := Op.store 24 _ _, type := _, pos := _, after := _, guard := _ } _ _ _ _); refine wp_put_f (P := Try.prog) 24 _ _ rfl (w.heap.size + 1) 4 5 0 rfl rfl hAt (by decide) (by kernel_rfl) (fun V => Bel w V ∧ V.rangeAt (w.heap.size) 0 [.int .i64 R.ra, .int .i64 R.rb, .float .f64 R.r2, .float .f64 R.r3, .float .f64 R.r4, .float .f64 R.r5, .float .f64 R.r6, .float .f64 R.r7, .float .f64 R.r8, .float .f64 R.r9, .float .f64 R.r10, .float .f64 R.r11, .int .i64 R.ro, .float .f64 R.r13] ∧ V.rangeAt (w.heap.size + 1) 0 [.float .f64 a0.sm, .float .f64 a0.si, .float .f64 0, .float .f64 0, .float .f64 0] ∧ V.rangeAt (w.heap.size + 1 + 1) 0 [.float .f64 b0.sm, .float .f64 b0.si, .float .f64 b0.sx, .float .f64 b0.sy, .float .f64 b0.ss] ∧ V.there (w.heap.size + 1) 0 5 ∧ V.there (w.heap.size + 1 + 1) 0 5 ∧ V.rangeAt (V8.heap.size) 0 [.pointer (some ⟨w.heap.size + 1, 0, none⟩), .pointer (some ⟨w.heap.size + 1 + 1, 0, none⟩)]) ⟨bl_set BB (by simp <;> omega), rng_set_far hR (by simp <;> omega), rng_put hA, rng_set_far hBb (by simp <;> omega), thr_put hAt, thr_put hBbt, rng_set_far hP (by simp <;> omega)⟩ ?_; clear BB hR hA hBb hAt hBbt hP c1; rintro V10 ⟨BB, hR, hA, hBb, hAt, hBbt, hP⟩; simp only [go_sem]) | go_values | go_skip | go_guarded | go_step | go_upon | go_back | dsimp only)
          rw [md_tt hA2 h1 h2] at hA
          exact ⟨⟨1, a, b0, by omega, rfl, .inr (.inl ⟨rfl, rfl, rfl⟩), BB, hR, hA, hBb, hAt, hBbt, hP⟩, by simp [intOf]⟩
    ·
      subst e1
      rw [e2] at hA
      rw [e3] at hBb
      have p0 : wr.cell? ⟨V8.heap.size, 1, none⟩ = some (.pointer (some ⟨w.heap.size + 1 + 1, 0, none⟩)) := by have h := hP 1 _ rfl; rwa [Nat.zero_add] at h
      have c0 : wr.cell? ⟨w.heap.size + 1 + 1, 0, none⟩ = some (.float .f64 b0.sm) := by have h := hBb 0 _ rfl; rwa [Nat.zero_add] at h
      have c1 : wr.cell? ⟨w.heap.size + 1 + 1, 1, none⟩ = some (.float .f64 b0.si) := by have h := hBb 1 _ rfl; rwa [Nat.zero_add] at h
      have t2 := thr_sub (o := 2) (m := 2) hBbt (by decide)
      simp only [show ((1 : Nat) : Int) = 1 from rfl]
      clear e2 e3
      cases h1 : eqK .f64 b0.sm 0
      · cases h2 : eqK .f64 b0.si 0
        · go_wp2
          rw [md_ff hB2 h1 h2] at hBb
          exact ⟨⟨2, a, b, by omega, rfl, .inr (.inr ⟨rfl, rfl, rfl⟩), BB, hR, hA, hBb, hAt, hBbt, hP⟩, by simp [intOf]⟩
        · repeat (first | ((with_reducible show Oper.wp _ { dst := _, op := Op.store 24 _ _, type := _, pos := _, after := _, guard := _ } _ _ _ _); refine wp_put_f (P := Try.prog) 24 _ _ rfl (w.heap.size + 1 + 1) 4 5 0 rfl rfl hBbt (by decide) (by kernel_rfl) (fun V => Bel w V ∧ V.rangeAt (w.heap.size) 0 [.int .i64 R.ra, .int .i64 R.rb, .float .f64 R.r2, .float .f64 R.r3, .float .f64 R.r4, .float .f64 R.r5, .float .f64 R.r6, .float .f64 R.r7, .float .f64 R.r8, .float .f64 R.r9, .float .f64 R.r10, .float .f64 R.r11, .int .i64 R.ro, .float .f64 R.r13] ∧ V.rangeAt (w.heap.size + 1 + 1) 0 [.float .f64 b0.sm, .float .f64 b0.si, .float .f64 b0.sx, .float .f64 b0.sy, .float .f64 0] ∧ V.rangeAt (w.heap.size + 1) 0 [.float .f64 a.sm, .float .f64 a.si, .float .f64 a.sx, .float .f64 a.sy, .float .f64 a.ss] ∧ V.there (w.heap.size + 1 + 1) 0 5 ∧ V.there (w.heap.size + 1) 0 5 ∧ V.rangeAt (V8.heap.size) 0 [.pointer (some ⟨w.heap.size + 1, 0, none⟩), .pointer (some ⟨w.heap.size + 1 + 1, 0, none⟩)]) ⟨bl_set BB (by simp <;> omega), rng_set_far hR (by simp <;> omega), rng_put hBb, rng_set_far hA (by simp <;> omega), thr_put hBbt, thr_put hAt, rng_set_far hP (by simp <;> omega)⟩ ?_; clear BB hR hA hBb hAt hBbt hP c1; rintro V10 ⟨BB, hR, hBb, hA, hBbt, hAt, hP⟩; simp only [go_sem]) | go_values | go_skip | go_guarded | go_step | go_upon | go_back | dsimp only)
          rw [md_ft hB2 h1 h2] at hBb
          exact ⟨⟨2, a, b, by omega, rfl, .inr (.inr ⟨rfl, rfl, rfl⟩), BB, hR, hA, hBb, hAt, hBbt, hP⟩, by simp [intOf]⟩
      · cases h2 : eqK .f64 b0.si 0
        · repeat (first | ((with_reducible show Oper.wp _ { dst := _, op := Op.store 26 _ _, type := _, pos := _, after := _, guard := _ } _ _ _ _); refine wp_store_abs (P := Try.prog) 26 _ _ rfl (w.heap.size + 1 + 1) 2 #[.float .f64 0, .float .f64 0] rfl rfl t2 (by kernel_rfl) (by kernel_rfl) (fun V => Bel w V ∧ V.rangeAt (w.heap.size) 0 [.int .i64 R.ra, .int .i64 R.rb, .float .f64 R.r2, .float .f64 R.r3, .float .f64 R.r4, .float .f64 R.r5, .float .f64 R.r6, .float .f64 R.r7, .float .f64 R.r8, .float .f64 R.r9, .float .f64 R.r10, .float .f64 R.r11, .int .i64 R.ro, .float .f64 R.r13] ∧ V.rangeAt (w.heap.size + 1 + 1) 0 [.float .f64 b0.sm, .float .f64 b0.si, .float .f64 0, .float .f64 0, .float .f64 b0.ss] ∧ V.rangeAt (w.heap.size + 1) 0 [.float .f64 a.sm, .float .f64 a.si, .float .f64 a.sx, .float .f64 a.sy, .float .f64 a.ss] ∧ V.there (w.heap.size + 1 + 1) 0 5 ∧ V.there (w.heap.size + 1) 0 5 ∧ V.rangeAt (V8.heap.size) 0 [.pointer (some ⟨w.heap.size + 1, 0, none⟩), .pointer (some ⟨w.heap.size + 1 + 1, 0, none⟩)]) ⟨bel_setsJ _ _ BB (by omega), World.rangeAt_setCells_apart hR _ _ _ (.inl (by omega)), rng_put2 hBb, World.rangeAt_setCells_apart hA _ _ _ (.inl (by omega)), World.there_setCells hBbt _ _ _, World.there_setCells hAt _ _ _, World.rangeAt_setCells_apart hP _ _ _ (.inl (by omega))⟩ ?_; clear BB hR hA hBb hAt hBbt hP c0 c1 p0 t2; rintro V9 ⟨BB, hR, hBb, hA, hBbt, hAt, hP⟩; (have c1 : V9.cell? ⟨w.heap.size + 1 + 1, 1, none⟩ = some (.float .f64 b0.si) := by have h := hBb 1 _ rfl; rwa [Nat.zero_add] at h); simp only [go_sem]) | go_values | go_skip | go_guarded | go_step | go_upon | go_back | dsimp only)
          rw [md_tf hB2 h1 h2] at hBb
          exact ⟨⟨2, a, b, by omega, rfl, .inr (.inr ⟨rfl, rfl, rfl⟩), BB, hR, hA, hBb, hAt, hBbt, hP⟩, by simp [intOf]⟩
        · repeat (first | ((with_reducible show Oper.wp _ { dst := _, op := Op.store 26 _ _, type := _, pos := _, after := _, guard := _ } _ _ _ _); refine wp_store_abs (P := Try.prog) 26 _ _ rfl (w.heap.size + 1 + 1) 2 #[.float .f64 0, .float .f64 0] rfl rfl t2 (by kernel_rfl) (by kernel_rfl) (fun V => Bel w V ∧ V.rangeAt (w.heap.size) 0 [.int .i64 R.ra, .int .i64 R.rb, .float .f64 R.r2, .float .f64 R.r3, .float .f64 R.r4, .float .f64 R.r5, .float .f64 R.r6, .float .f64 R.r7, .float .f64 R.r8, .float .f64 R.r9, .float .f64 R.r10, .float .f64 R.r11, .int .i64 R.ro, .float .f64 R.r13] ∧ V.rangeAt (w.heap.size + 1 + 1) 0 [.float .f64 b0.sm, .float .f64 b0.si, .float .f64 0, .float .f64 0, .float .f64 b0.ss] ∧ V.rangeAt (w.heap.size + 1) 0 [.float .f64 a.sm, .float .f64 a.si, .float .f64 a.sx, .float .f64 a.sy, .float .f64 a.ss] ∧ V.there (w.heap.size + 1 + 1) 0 5 ∧ V.there (w.heap.size + 1) 0 5 ∧ V.rangeAt (V8.heap.size) 0 [.pointer (some ⟨w.heap.size + 1, 0, none⟩), .pointer (some ⟨w.heap.size + 1 + 1, 0, none⟩)]) ⟨bel_setsJ _ _ BB (by omega), World.rangeAt_setCells_apart hR _ _ _ (.inl (by omega)), rng_put2 hBb, World.rangeAt_setCells_apart hA _ _ _ (.inl (by omega)), World.there_setCells hBbt _ _ _, World.there_setCells hAt _ _ _, World.rangeAt_setCells_apart hP _ _ _ (.inl (by omega))⟩ ?_; clear BB hR hA hBb hAt hBbt hP c0 c1 p0 t2; rintro V9 ⟨BB, hR, hBb, hA, hBbt, hAt, hP⟩; (have c1 : V9.cell? ⟨w.heap.size + 1 + 1, 1, none⟩ = some (.float .f64 b0.si) := by have h := hBb 1 _ rfl; rwa [Nat.zero_add] at h); simp only [go_sem]) | ((with_reducible show Oper.wp _ { dst := _, op := Op.store 24 _ _, type := _, pos := _, after := _, guard := _ } _ _ _ _); refine wp_put_f (P := Try.prog) 24 _ _ rfl (w.heap.size + 1 + 1) 4 5 0 rfl rfl hBbt (by decide) (by kernel_rfl) (fun V => Bel w V ∧ V.rangeAt (w.heap.size) 0 [.int .i64 R.ra, .int .i64 R.rb, .float .f64 R.r2, .float .f64 R.r3, .float .f64 R.r4, .float .f64 R.r5, .float .f64 R.r6, .float .f64 R.r7, .float .f64 R.r8, .float .f64 R.r9, .float .f64 R.r10, .float .f64 R.r11, .int .i64 R.ro, .float .f64 R.r13] ∧ V.rangeAt (w.heap.size + 1 + 1) 0 [.float .f64 b0.sm, .float .f64 b0.si, .float .f64 0, .float .f64 0, .float .f64 0] ∧ V.rangeAt (w.heap.size + 1) 0 [.float .f64 a.sm, .float .f64 a.si, .float .f64 a.sx, .float .f64 a.sy, .float .f64 a.ss] ∧ V.there (w.heap.size + 1 + 1) 0 5 ∧ V.there (w.heap.size + 1) 0 5 ∧ V.rangeAt (V8.heap.size) 0 [.pointer (some ⟨w.heap.size + 1, 0, none⟩), .pointer (some ⟨w.heap.size + 1 + 1, 0, none⟩)]) ⟨bl_set BB (by simp <;> omega), rng_set_far hR (by simp <;> omega), rng_put hBb, rng_set_far hA (by simp <;> omega), thr_put hBbt, thr_put hAt, rng_set_far hP (by simp <;> omega)⟩ ?_; clear BB hR hA hBb hAt hBbt hP c1; rintro V10 ⟨BB, hR, hBb, hA, hBbt, hAt, hP⟩; simp only [go_sem]) | go_values | go_skip | go_guarded | go_step | go_upon | go_back | dsimp only)
          rw [md_tt hB2 h1 h2] at hBb
          exact ⟨⟨2, a, b, by omega, rfl, .inr (.inr ⟨rfl, rfl, rfl⟩), BB, hR, hA, hBb, hAt, hBbt, hP⟩, by simp [intOf]⟩
    ·
      subst e1
      rw [e2] at hA
      rw [e3] at hBb
      clear e2 e3 hAt hBbt hP x y
      simp only [show ((2 : Nat) : Int) = 2 from rfl]
      repeat (first | (with_reducible show Oper.wp _ _ _ _ _ _; refine wp_load_mid (P := Try.prog) 43 _ rfl (w.heap.size) 0 rfl [.int .i64 R.ra, .int .i64 R.rb, .float .f64 R.r2, .float .f64 R.r3, .float .f64 R.r4, .float .f64 R.r5, .float .f64 R.r6, .float .f64 R.r7, .float .f64 R.r8, .float .f64 R.r9, .float .f64 R.r10, .float .f64 R.r11, .int .i64 R.ro, .float .f64 R.r13] _ (by with_reducible assumption) Try.underlying43 rfl (by kernel_rfl) ?_; simp only [go_sem]) | (with_reducible show Oper.wp _ _ _ _ _ _; refine wp_load_mid (P := Try.prog) 45 _ rfl (w.heap.size + 1) 0 rfl [.float .f64 a.sm, .float .f64 a.si, .float .f64 a.sx, .float .f64 a.sy, .float .f64 a.ss] _ (by with_reducible assumption) Try.underlying45 rfl (by kernel_rfl) ?_; simp only [go_sem]) | (with_reducible show Oper.wp _ _ _ _ _ _; refine wp_load_mid (P := Try.prog) 45 _ rfl (w.heap.size + 1 + 1) 0 rfl [.float .f64 b.sm, .float .f64 b.si, .float .f64 b.sx, .float .f64 b.sy, .float .f64 b.ss] _ (by with_reducible assumption) Try.underlying45 rfl (by kernel_rfl) ?_; simp only [go_sem]) | (go_at_call 16; (with_reducible refine (usuals_w R a b _ oR oa ob).mono ?_); rintro e u1 ⟨uu, hu, rfl, b1⟩; replace hR := rng_bel hR b1; replace hA := rng_bel hA b1; replace hBb := rng_bel hBb b1; replace BB := bl_trans BB b1; (have k9 : u1.cell? ⟨w.heap.size, 9, none⟩ = some (.float .f64 R.r9) := by have h := hR 9 _ rfl; rwa [Nat.zero_add] at h); (have k10 : u1.cell? ⟨w.heap.size, 10, none⟩ = some (.float .f64 R.r10) := by have h := hR 10 _ rfl; rwa [Nat.zero_add] at h); (have k11 : u1.cell? ⟨w.heap.size, 11, none⟩ = some (.float .f64 R.r11) := by have h := hR 11 _ rfl; rwa [Nat.zero_add] at h); rcases (show uu = false ∨ (uu = true ∧ Mk 1) by cases uu <;> simp [Mk]) with rfl | ⟨rfl, mk1⟩; rotate_left) | go_values | go_skip | go_guarded | go_step | go_upon | go_back | dsimp only)
      rotate_left
      · repeat (first | (with_reducible show Oper.wp _ _ _ _ _ _; refine wp_load_mid (P := Try.prog) 43 _ rfl (w.heap.size) 0 rfl [.int .i64 R.ra, .int .i64 R.rb, .float .f64 R.r2, .float .f64 R.r3, .float .f64 R.r4, .float .f64 R.r5, .float .f64 R.r6, .float .f64 R.r7, .float .f64 R.r8, .float .f64 R.r9, .float .f64 R.r10, .float .f64 R.r11, .int .i64 R.ro, .float .f64 R.r13] _ (by with_reducible assumption) Try.underlying43 rfl (by kernel_rfl) ?_; simp only [go_sem]) | (with_reducible show Oper.wp _ _ _ _ _ _; refine wp_load_mid (P := Try.prog) 45 _ rfl (w.heap.size + 1) 0 rfl [.float .f64 a.sm, .float .f64 a.si, .float .f64 a.sx, .float .f64 a.sy, .float .f64 a.ss] _ (by with_reducible assumption) Try.underlying45 rfl (by kernel_rfl) ?_; simp only [go_sem]) | (with_reducible show Oper.wp _ _ _ _ _ _; refine wp_load_mid (P := Try.prog) 45 _ rfl (w.heap.size + 1 + 1) 0 rfl [.float .f64 b.sm, .float .f64 b.si, .float .f64 b.sx, .float .f64 b.sy, .float .f64 b.ss] _ (by with_reducible assumption) Try.underlying45 rfl (by kernel_rfl) ?_; simp only [go_sem]) | (go_at_call 16; (with_reducible refine (usuals_w R a b _ oR oa ob).mono ?_); rintro e u1 ⟨uu, hu, rfl, b1⟩; replace hR := rng_bel hR b1; replace hA := rng_bel hA b1; replace hBb := rng_bel hBb b1; replace BB := bl_trans BB b1; (have k9 : u1.cell? ⟨w.heap.size, 9, none⟩ = some (.float .f64 R.r9) := by have h := hR 9 _ rfl; rwa [Nat.zero_add] at h); (have k10 : u1.cell? ⟨w.heap.size, 10, none⟩ = some (.float .f64 R.r10) := by have h := hR 10 _ rfl; rwa [Nat.zero_add] at h); (have k11 : u1.cell? ⟨w.heap.size, 11, none⟩ = some (.float .f64 R.r11) := by have h := hR 11 _ rfl; rwa [Nat.zero_add] at h); rcases (show uu = false ∨ (uu = true ∧ Mk 1) by cases uu <;> simp [Mk]) with rfl | ⟨rfl, mk1⟩; rotate_left) | go_values | go_skip | go_guarded | go_step | go_upon | go_back | dsimp only)
        go_ret
        exact ⟨rfl, BB⟩
      have US := hu rfl
      clear hu
      have UN := us_n US oR oa ob
      have hal := us_al US
      have SO := sol_of UN hw
      have hz := hz_of UN hA2 hB2
      have en := @en_sol R a b UN hz hw (by obtain ⟨X, e1, e2⟩ := eT; rw [← e1, e2]) h1 h2
      clear hz
      have kinA : ∀ W : World, Calls Try.prog 23 #[.agg #[.float .f64 a.sm, .float .f64 a.si, .float .f64 a.sx, .float .f64 a.sy, .float .f64 a.ss]] W fun e w' => e = .returned (.float .f64 (kiW a.sm a.si a.sx a.sy a.ss)) ∧ Bel W w' := fun W => kin_w a W (UN.fm 0 (by omega)) (UN.fm 2 (by omega)) (UN.fm0 0 (by omega)) (UN.fm0 2 (by omega)) (bd_mono (UN.fv 0 (by omega)).bd (by omega)) (bd_mono (UN.fv 1 (by omega)).bd (by omega)) (bd_mono (UN.fv 2 (by omega)).bd (by omega))
      have kinB : ∀ W : World, Calls Try.prog 23 #[.agg #[.float .f64 b.sm, .float .f64 b.si, .float .f64 b.sx, .float .f64 b.sy, .float .f64 b.ss]] W fun e w' => e = .returned (.float .f64 (kiW b.sm b.si b.sx b.sy b.ss)) ∧ Bel W w' := fun W => kin_w b W (UN.fm 3 (by omega)) (UN.fm 5 (by omega)) (UN.fm0 3 (by omega)) (UN.fm0 5 (by omega)) (bd_mono (UN.fv 3 (by omega)).bd (by omega)) (bd_mono (UN.fv 4 (by omega)).bd (by omega)) (bd_mono (UN.fv 5 (by omega)).bd (by omega))
      repeat (first | (with_reducible show Oper.wp _ _ _ _ _ _; refine wp_load_mid (P := Try.prog) 43 _ rfl (w.heap.size) 0 rfl [.int .i64 R.ra, .int .i64 R.rb, .float .f64 R.r2, .float .f64 R.r3, .float .f64 R.r4, .float .f64 R.r5, .float .f64 R.r6, .float .f64 R.r7, .float .f64 R.r8, .float .f64 R.r9, .float .f64 R.r10, .float .f64 R.r11, .int .i64 R.ro, .float .f64 R.r13] _ (by with_reducible assumption) Try.underlying43 rfl (by kernel_rfl) ?_; simp only [go_sem]) | (with_reducible show Oper.wp _ _ _ _ _ _; refine wp_load_mid (P := Try.prog) 45 _ rfl (w.heap.size + 1) 0 rfl [.float .f64 a.sm, .float .f64 a.si, .float .f64 a.sx, .float .f64 a.sy, .float .f64 a.ss] _ (by with_reducible assumption) Try.underlying45 rfl (by kernel_rfl) ?_; simp only [go_sem]) | (with_reducible show Oper.wp _ _ _ _ _ _; refine wp_load_mid (P := Try.prog) 45 _ rfl (w.heap.size + 1 + 1) 0 rfl [.float .f64 b.sm, .float .f64 b.si, .float .f64 b.sx, .float .f64 b.sy, .float .f64 b.ss] _ (by with_reducible assumption) Try.underlying45 rfl (by kernel_rfl) ?_; simp only [go_sem]) | (have qz := hal; clear qz; go_at_call 17; (with_reducible refine (wgt_ok R a b _ oR oa ob hal).mono ?_); rintro e u2 ⟨wt, hwt, rfl, b2⟩; replace hR := rng_bel hR b2; replace hA := rng_bel hA b2; replace hBb := rng_bel hBb b2; replace BB := bl_trans BB b2; (obtain rfl : wt = wtF R a b := bd_word hwt (wt_bdW UN)); clear hwt) | (go_at_call 18; (with_reducible refine (one_ok R a b _ oR oa ob hal SO.ok SO.fi).mono ?_); rintro e u3 ⟨q, x, y, u, x2, y2, u2, hq, hx, hy, hu, hx2, hy2, hu2, rfl, b3⟩; obtain ⟨bq9, hVb, hle⟩ := en hx hy hu hx2 hy2 hu2; (obtain rfl : q = quF R a b := bd_word hq SO.bq); clear hq; replace hR := rng_bel hR b3; replace hA := rng_bel hA b3; replace hBb := rng_bel hBb b3; replace BB := bl_trans BB b3; (have t0 : (((u3.alloc (.cells #[.int .i64 0, .int .i64 0, .float .f64 0, .float .f64 0, .float .f64 0, .float .f64 0, .float .f64 0, .float .f64 0, .float .f64 0, .float .f64 0, .float .f64 0, .float .f64 0, .int .i64 0, .float .f64 0] 43)).alloc (.cells #[.float .f64 0, .float .f64 0, .float .f64 0, .float .f64 0, .float .f64 0] 45)).alloc (.cells #[.float .f64 0, .float .f64 0, .float .f64 0, .float .f64 0, .float .f64 0] 45)).there (u3.heap.size) 0 14 := World.there_alloc (World.there_alloc (there_new u3 [.int .i64 0, .int .i64 0, .float .f64 0, .float .f64 0, .float .f64 0, .float .f64 0, .float .f64 0, .float .f64 0, .float .f64 0, .float .f64 0, .float .f64 0, .float .f64 0, .int .i64 0, .float .f64 0] 43) _) _); (have t1 : (((u3.alloc (.cells #[.int .i64 0, .int .i64 0, .float .f64 0, .float .f64 0, .float .f64 0, .float .f64 0, .float .f64 0, .float .f64 0, .float .f64 0, .float .f64 0, .float .f64 0, .float .f64 0, .int .i64 0, .float .f64 0] 43)).alloc (.cells #[.float .f64 0, .float .f64 0, .float .f64 0, .float .f64 0, .float .f64 0] 45)).alloc (.cells #[.float .f64 0, .float .f64 0, .float .f64 0, .float .f64 0, .float .f64 0] 45)).there (u3.heap.size + 1) 0 5 := by have h := there_new (u3.alloc (.cells #[.int .i64 0, .int .i64 0, .float .f64 0, .float .f64 0, .float .f64 0, .float .f64 0, .float .f64 0, .float .f64 0, .float .f64 0, .float .f64 0, .float .f64 0, .float .f64 0, .int .i64 0, .float .f64 0] 43)) [.float .f64 0, .float .f64 0, .float .f64 0, .float .f64 0, .float .f64 0] 45; rw [World.size_alloc] at h; exact World.there_alloc h _); (have t2 : (((u3.alloc (.cells #[.int .i64 0, .int .i64 0, .float .f64 0, .float .f64 0, .float .f64 0, .float .f64 0, .float .f64 0, .float .f64 0, .float .f64 0, .float .f64 0, .float .f64 0, .float .f64 0, .int .i64 0, .float .f64 0] 43)).alloc (.cells #[.float .f64 0, .float .f64 0, .float .f64 0, .float .f64 0, .float .f64 0] 45)).alloc (.cells #[.float .f64 0, .float .f64 0, .float .f64 0, .float .f64 0, .float .f64 0] 45)).there (u3.heap.size + 1 + 1) 0 5 := by have h := there_new ((u3.alloc (.cells #[.int .i64 0, .int .i64 0, .float .f64 0, .float .f64 0, .float .f64 0, .float .f64 0, .float .f64 0, .float .f64 0, .float .f64 0, .float .f64 0, .float .f64 0, .float .f64 0, .int .i64 0, .float .f64 0] 43)).alloc (.cells #[.float .f64 0, .float .f64 0, .float .f64 0, .float .f64 0, .float .f64 0] 45)) [.float .f64 0, .float .f64 0, .float .f64 0, .float .f64 0, .float .f64 0] 45; rw [World.size_alloc, World.size_alloc] at h; exact h); have tB : Bel u3 (((u3.alloc (.cells #[.int .i64 0, .int .i64 0, .float .f64 0, .float .f64 0, .float .f64 0, .float .f64 0, .float .f64 0, .float .f64 0, .float .f64 0, .float .f64 0, .float .f64 0, .float .f64 0, .int .i64 0, .float .f64 0] 43)).alloc (.cells #[.float .f64 0, .float .f64 0, .float .f64 0, .float .f64 0, .float .f64 0] 45)).alloc (.cells #[.float .f64 0, .float .f64 0, .float .f64 0, .float .f64 0, .float .f64 0] 45)) := bl_alloc (bl_alloc (bl_alloc (bl_refl _) _ _) _ _) _ _) | ((with_reducible show Oper.wp _ { dst := _, op := Op.store 43 _ _, type := _, pos := _, after := _, guard := _ } _ _ _ _); refine wp_store_abs (P := Try.prog) 43 _ _ rfl (u3.heap.size) 0 #[.int .i64 R.ra, .int .i64 R.rb, .float .f64 R.r2, .float .f64 R.r3, .float .f64 R.r4, .float .f64 R.r5, .float .f64 R.r6, .float .f64 R.r7, .float .f64 R.r8, .float .f64 R.r9, .float .f64 R.r10, .float .f64 (quF R a b), .int .i64 R.ro, .float .f64 R.r13] rfl rfl t0 (by kernel_rfl) (by kernel_rfl) (fun V => Bel u3 V ∧ V.rangeAt (u3.heap.size) 0 [.int .i64 R.ra, .int .i64 R.rb, .float .f64 R.r2, .float .f64 R.r3, .float .f64 R.r4, .float .f64 R.r5, .float .f64 R.r6, .float .f64 R.r7, .float .f64 R.r8, .float .f64 R.r9, .float .f64 R.r10, .float .f64 (quF R a b), .int .i64 R.ro, .float .f64 R.r13] ∧ V.there (u3.heap.size + 1) 0 5 ∧ V.there (u3.heap.size + 1 + 1) 0 5) ⟨bel_setsJ _ _ tB (Nat.le_refl _), World.rangeAt_setCells_same _ _ _ _ t0, World.there_setCells t1 _ _ _, World.there_setCells t2 _ _ _⟩ ?_; rintro V1 ⟨C1, r0, t3, t4⟩; simp only [go_sem]) | ((with_reducible show Oper.wp _ { dst := _, op := Op.store 45 _ _, type := _, pos := _, after := _, guard := _ } _ _ _ _); refine wp_store_abs (P := Try.prog) 45 _ _ rfl (u3.heap.size + 1) 0 #[.float .f64 a.sm, .float .f64 a.si, .float .f64 x, .float .f64 y, .float .f64 u] rfl rfl t3 (by kernel_rfl) (by kernel_rfl) (fun V => Bel u3 V ∧ V.rangeAt (u3.heap.size) 0 [.int .i64 R.ra, .int .i64 R.rb, .float .f64 R.r2, .float .f64 R.r3, .float .f64 R.r4, .float .f64 R.r5, .float .f64 R.r6, .float .f64 R.r7, .float .f64 R.r8, .float .f64 R.r9, .float .f64 R.r10, .float .f64 (quF R a b), .int .i64 R.ro, .float .f64 R.r13] ∧ V.rangeAt (u3.heap.size + 1) 0 [.float .f64 a.sm, .float .f64 a.si, .float .f64 x, .float .f64 y, .float .f64 u] ∧ V.there (u3.heap.size + 1 + 1) 0 5) ⟨bel_setsJ _ _ C1 (by omega), World.rangeAt_setCells_apart r0 _ _ _ (.inl (by omega)), World.rangeAt_setCells_same _ _ _ _ t3, World.there_setCells t4 _ _ _⟩ ?_; rintro V2 ⟨C2, r1, r2, t5⟩; simp only [go_sem]) | ((with_reducible show Oper.wp _ { dst := _, op := Op.store 45 _ _, type := _, pos := _, after := _, guard := _ } _ _ _ _); refine wp_store_abs (P := Try.prog) 45 _ _ rfl (u3.heap.size + 1 + 1) 0 #[.float .f64 b.sm, .float .f64 b.si, .float .f64 x2, .float .f64 y2, .float .f64 u2] rfl rfl t5 (by kernel_rfl) (by kernel_rfl) (fun V => Bel u3 V ∧ V.rangeAt (u3.heap.size) 0 [.int .i64 R.ra, .int .i64 R.rb, .float .f64 R.r2, .float .f64 R.r3, .float .f64 R.r4, .float .f64 R.r5, .float .f64 R.r6, .float .f64 R.r7, .float .f64 R.r8, .float .f64 R.r9, .float .f64 R.r10, .float .f64 (quF R a b), .int .i64 R.ro, .float .f64 R.r13] ∧ V.rangeAt (u3.heap.size + 1) 0 [.float .f64 a.sm, .float .f64 a.si, .float .f64 x, .float .f64 y, .float .f64 u] ∧ V.rangeAt (u3.heap.size + 1 + 1) 0 [.float .f64 b.sm, .float .f64 b.si, .float .f64 x2, .float .f64 y2, .float .f64 u2]) ⟨bel_setsJ _ _ C2 (by omega), World.rangeAt_setCells_apart r1 _ _ _ (.inl (by omega)), World.rangeAt_setCells_apart r2 _ _ _ (.inl (by omega)), World.rangeAt_setCells_same _ _ _ _ t5⟩ ?_; rintro V3 ⟨C3, oR0, oR1, oR2⟩; replace hR := rng_bel hR C3; replace hA := rng_bel hA C3; replace hBb := rng_bel hBb C3; replace BB := bl_trans BB C3; clear t0 t1 t2 tB C1 r0 t3 t4 C2 r1 r2 t5; clear k9 k10 k11; simp only [go_sem]) | go_values | go_skip | go_guarded | go_step | go_upon | go_back | dsimp only)
      have kinC : ∀ W : World, Calls Try.prog 23 #[.agg #[.float .f64 a.sm, .float .f64 a.si, .float .f64 x, .float .f64 y, .float .f64 u]] W fun e w' => e = .returned (.float .f64 (kiW a.sm a.si x y u)) ∧ Bel W w' := fun W => kin_w ⟨a.sm, a.si, x, y, u⟩ W (UN.fm 0 (by omega)) (UN.fm 2 (by omega)) (UN.fm0 0 (by omega)) (UN.fm0 2 (by omega)) (hVb 0 (by omega)) (hVb 1 (by omega)) (hVb 2 (by omega))
      have kinD : ∀ W : World, Calls Try.prog 23 #[.agg #[.float .f64 b.sm, .float .f64 b.si, .float .f64 x2, .float .f64 y2, .float .f64 u2]] W fun e w' => e = .returned (.float .f64 (kiW b.sm b.si x2 y2 u2)) ∧ Bel W w' := fun W => kin_w ⟨b.sm, b.si, x2, y2, u2⟩ W (UN.fm 3 (by omega)) (UN.fm 5 (by omega)) (UN.fm0 3 (by omega)) (UN.fm0 5 (by omega)) (hVb 3 (by omega)) (hVb 4 (by omega)) (hVb 5 (by omega))
      obtain ⟨KB, KA, z1, z2, z3, z4, z5, z6, z7, qKB, qKA, qz1, qz2, qz3, qz4, qz5, qz6, qz7, hlf⟩ := en_fin UN bq9 hVb hle
      clear hle en hx hy hu hx2 hy2 hu2
      have k11 : V3.cell? ⟨w.heap.size, 11, none⟩ = some (.float .f64 R.r11) := by have h := hR 11 _ rfl; rwa [Nat.zero_add] at h
      have q11 : V3.cell? ⟨u3.heap.size, 11, none⟩ = some (.float .f64 (quF R a b)) := by have h := oR0 11 _ rfl; rwa [Nat.zero_add] at h
      refine wp_region_mono 6 rfl (fun i W v => match i with | 0 => v = .agg #[.float .f64 a.sm, .float .f64 a.si, .float .f64 a.sx, .float .f64 a.sy, .float .f64 a.ss] | 1 => v = .float .f64 (kiW a.sm a.si a.sx a.sy a.ss) | 2 => v = .agg #[.float .f64 b.sm, .float .f64 b.si, .float .f64 b.sx, .float .f64 b.sy, .float .f64 b.ss] | 3 => v = .float .f64 (kiW b.sm b.si b.sx b.sy b.ss) | 4 => v = .float .f64 KB | 5 => v = .float .f64 KB | _ => False) ?A_w18 (by kernel_rfl) (by kernel_rfl) ?hA_w18 ?hmo_w18 ?hq_w18 ?ht_w18
      case hA_w18 =>
        intro s
        simp only [putL, dstO, Act.put, List.getElem?_toArray, List.getElem?_cons_zero, List.getElem?_cons_succ, Option.bind_some, List.setIfInBounds_toArray, List.set_cons_zero, List.set_cons_succ, if_true]
        all_goals exact rfl
      case hmo_w18 =>
        intro i W W' v hi hb h
        rcases (show i = 0 ∨ i = 1 ∨ i = 2 ∨ i = 3 ∨ i = 4 ∨ i = 5 by omega) with rfl | rfl | rfl | rfl | rfl | rfl
        all_goals exact h
      case hq_w18 =>
        intro i o hi ho s W hs hb18 K hK
        rcases (show i = 0 ∨ i = 1 ∨ i = 2 ∨ i = 3 ∨ i = 4 ∨ i = 5 by omega) with rfl | rfl | rfl | rfl | rfl | rfl
        · cases ho
          simp only [Act.put, List.setIfInBounds_toArray, List.set_cons_zero, List.set_cons_succ] at hK
          clear hs
          refine wp_load_mid (P := Try.prog) 45 _ rfl (w.heap.size + 1) 0 rfl [.float .f64 a.sm, .float .f64 a.si, .float .f64 a.sx, .float .f64 a.sy, .float .f64 a.ss] _ (rng_bel hA hb18) Try.underlying45 rfl (by kernel_rfl) ?_; exact hK.out _ _ rfl (bl_refl _)
        · cases ho
          have e0 : s 0 = _ := hs 0 (by decide) (by kernel_rfl)
          simp only [e0] at hK ⊢
          simp only [Act.put, List.setIfInBounds_toArray, List.set_cons_zero, List.set_cons_succ] at hK
          clear hs
          go_simp
          all_goals (try go_wp2_with (first | (go_at_call 23; (with_reducible refine (kinA _).mono ?_); rintro e w' ⟨rfl, hb1⟩)))
          all_goals first | exact hK.out _ _ rfl hb1 | exact hK.out _ _ rfl hb1 | with_reducible exact hK.out _ _ rfl (bl_refl _) | exact hK.out _ _ rfl (bl_refl _)
        · cases ho
          simp only [Act.put, List.setIfInBounds_toArray, List.set_cons_zero, List.set_cons_succ] at hK
          clear hs
          refine wp_load_mid (P := Try.prog) 45 _ rfl (w.heap.size + 1 + 1) 0 rfl [.float .f64 b.sm, .float .f64 b.si, .float .f64 b.sx, .float .f64 b.sy, .float .f64 b.ss] _ (rng_bel hBb hb18) Try.underlying45 rfl (by kernel_rfl) ?_; exact hK.out _ _ rfl (bl_refl _)
        · cases ho
          have e2 : s 2 = _ := hs 2 (by decide) (by kernel_rfl)
          simp only [e2] at hK ⊢
          simp only [Act.put, List.setIfInBounds_toArray, List.set_cons_zero, List.set_cons_succ] at hK
          clear hs
          go_simp
          all_goals (try go_wp2_with (first | (go_at_call 23; (with_reducible refine (kinB _).mono ?_); rintro e w' ⟨rfl, hb1⟩)))
          all_goals first | exact hK.out _ _ rfl hb1 | exact hK.out _ _ rfl hb1 | with_reducible exact hK.out _ _ rfl (bl_refl _) | exact hK.out _ _ rfl (bl_refl _)
        · cases ho
          have e1 : s 1 = _ := hs 1 (by decide) (by kernel_rfl)
          have e3 : s 3 = _ := hs 3 (by decide) (by kernel_rfl)
          simp only [e1, e3] at hK ⊢
          simp only [Act.put, List.setIfInBounds_toArray, List.set_cons_zero, List.set_cons_succ] at hK
          clear hs
          go_simp
          all_goals first | with_reducible exact hK.out _ _ rfl (bl_refl _) | exact hK.out _ _ rfl (bl_refl _)
        · cases ho
          have e4 : s 4 = _ := hs 4 (by decide) (by kernel_rfl)
          simp only [e4] at hK ⊢
          simp only [Act.put, List.setIfInBounds_toArray, List.set_cons_zero, List.set_cons_succ] at hK
          clear hs
          go_simp
          all_goals first | with_reducible exact hK.out _ _ rfl (bl_refl _) | exact hK.out _ _ rfl (bl_refl _)
      case ht_w18 =>
        intro s W18 hs hb18
        have e0 : s 0 = _ := hs 0 (by decide)
        have e1 : s 1 = _ := hs 1 (by decide)
        have e2 : s 2 = _ := hs 2 (by decide)
        have e3 : s 3 = _ := hs 3 (by decide)
        have e4 : s 4 = _ := hs 4 (by decide)
        have e5 : s 5 = _ := hs 5 (by decide)
        simp only [e0, e1, e2, e3, e4, e5]
        clear hs e0 e1 e2 e3 e4 e5
        replace k11 := keep hb18 k11
        replace q11 := keep hb18 q11
        replace hR := rng_bel hR hb18; replace hA := rng_bel hA hb18; replace hBb := rng_bel hBb hb18; replace BB := bl_trans BB hb18
        replace oR1 := rng_bel oR1 hb18; replace oR2 := rng_bel oR2 hb18
        clear hb18
        repeat (first | go_values | go_skip | go_guarded | go_step | go_upon | go_back | dsimp only)
        refine wp_region_mono 6 rfl (fun i W v => match i with | 0 => v = .agg #[.float .f64 a.sm, .float .f64 a.si, .float .f64 x, .float .f64 y, .float .f64 u] | 1 => v = .float .f64 (kiW a.sm a.si x y u) | 2 => v = .agg #[.float .f64 b.sm, .float .f64 b.si, .float .f64 x2, .float .f64 y2, .float .f64 u2] | 3 => v = .float .f64 (kiW b.sm b.si x2 y2 u2) | 4 => v = .float .f64 KA | 5 => v = .float .f64 KA | _ => False) ?A_w19 (by kernel_rfl) (by kernel_rfl) ?hA_w19 ?hmo_w19 ?hq_w19 ?ht_w19
        case hA_w19 =>
          intro s
          simp only [putL, dstO, Act.put, List.getElem?_toArray, List.getElem?_cons_zero, List.getElem?_cons_succ, Option.bind_some, List.setIfInBounds_toArray, List.set_cons_zero, List.set_cons_succ, if_true]
          all_goals exact rfl
        case hmo_w19 =>
          intro i W W' v hi hb h
          rcases (show i = 0 ∨ i = 1 ∨ i = 2 ∨ i = 3 ∨ i = 4 ∨ i = 5 by omega) with rfl | rfl | rfl | rfl | rfl | rfl
          all_goals exact h
        case hq_w19 =>
          intro i o hi ho s W hs hb19 K hK
          rcases (show i = 0 ∨ i = 1 ∨ i = 2 ∨ i = 3 ∨ i = 4 ∨ i = 5 by omega) with rfl | rfl | rfl | rfl | rfl | rfl
          · cases ho
            simp only [Act.put, List.setIfInBounds_toArray, List.set_cons_zero, List.set_cons_succ] at hK
            clear hs
            refine wp_load_mid (P := Try.prog) 45 _ rfl (u3.heap.size + 1) 0 rfl [.float .f64 a.sm, .float .f64 a.si, .float .f64 x, .float .f64 y, .float .f64 u] _ (rng_bel oR1 hb19) Try.underlying45 rfl (by kernel_rfl) ?_; exact hK.out _ _ rfl (bl_refl _)
          · cases ho
            have e0 : s 0 = _ := hs 0 (by decide) (by kernel_rfl)
            simp only [e0] at hK ⊢
            simp only [Act.put, List.setIfInBounds_toArray, List.set_cons_zero, List.set_cons_succ] at hK
            clear hs
            go_simp
            all_goals (try go_wp2_with (first | (go_at_call 23; (with_reducible refine (kinC _).mono ?_); rintro e w' ⟨rfl, hb1⟩)))
            all_goals first | exact hK.out _ _ rfl hb1 | exact hK.out _ _ rfl hb1 | with_reducible exact hK.out _ _ rfl (bl_refl _) | exact hK.out _ _ rfl (bl_refl _)
          · cases ho
            simp only [Act.put, List.setIfInBounds_toArray, List.set_cons_zero, List.set_cons_succ] at hK
            clear hs
            refine wp_load_mid (P := Try.prog) 45 _ rfl (u3.heap.size + 1 + 1) 0 rfl [.float .f64 b.sm, .float .f64 b.si, .float .f64 x2, .float .f64 y2, .float .f64 u2] _ (rng_bel oR2 hb19) Try.underlying45 rfl (by kernel_rfl) ?_; exact hK.out _ _ rfl (bl_refl _)
          · cases ho
            have e2 : s 2 = _ := hs 2 (by decide) (by kernel_rfl)
            simp only [e2] at hK ⊢
            simp only [Act.put, List.setIfInBounds_toArray, List.set_cons_zero, List.set_cons_succ] at hK
            clear hs
            go_simp
            all_goals (try go_wp2_with (first | (go_at_call 23; (with_reducible refine (kinD _).mono ?_); rintro e w' ⟨rfl, hb1⟩)))
            all_goals first | exact hK.out _ _ rfl hb1 | exact hK.out _ _ rfl hb1 | with_reducible exact hK.out _ _ rfl (bl_refl _) | exact hK.out _ _ rfl (bl_refl _)
          · cases ho
            have e1 : s 1 = _ := hs 1 (by decide) (by kernel_rfl)
            have e3 : s 3 = _ := hs 3 (by decide) (by kernel_rfl)
            simp only [e1, e3] at hK ⊢
            simp only [Act.put, List.setIfInBounds_toArray, List.set_cons_zero, List.set_cons_succ] at hK
            clear hs
            go_simp
            all_goals first | with_reducible exact hK.out _ _ rfl (bl_refl _) | exact hK.out _ _ rfl (bl_refl _)
          · cases ho
            have e4 : s 4 = _ := hs 4 (by decide) (by kernel_rfl)
            simp only [e4] at hK ⊢
            simp only [Act.put, List.setIfInBounds_toArray, List.set_cons_zero, List.set_cons_succ] at hK
            clear hs
            go_simp
            all_goals first | with_reducible exact hK.out _ _ rfl (bl_refl _) | exact hK.out _ _ rfl (bl_refl _)
        case ht_w19 =>
          intro s W19 hs hb19
          have e0 : s 0 = _ := hs 0 (by decide)
          have e1 : s 1 = _ := hs 1 (by decide)
          have e2 : s 2 = _ := hs 2 (by decide)
          have e3 : s 3 = _ := hs 3 (by decide)
          have e4 : s 4 = _ := hs 4 (by decide)
          have e5 : s 5 = _ := hs 5 (by decide)
          simp only [e0, e1, e2, e3, e4, e5]
          clear hs e0 e1 e2 e3 e4 e5
          replace k11 := keep hb19 k11
          replace q11 := keep hb19 q11
          have BE := bl_trans BB hb19
          repeat (first | go_values | go_skip | go_guarded | go_step | go_upon | go_back | dsimp only)
          go_ret
          exact ⟨rfl, BE⟩

end Go.Proofs.Ytfohggiehbplkaa
