/-
  SolveOne: one row alone, of the model.
-/
import Derived.Test.YtfohggiehbplkaaVec
import Derived.Test.YtfohggiehbplkaaSod
import Derived.Test.YtfohggiehbplkaaXq
import Derived.Test.YtfohggiehbplkaaXzs
import Derived.Test.YtfohggiehbplkaaXzk
import Derived.Below
import Derived.WalkKit
import Derived.WalkLawsBesides
import Derived.WalkSpells
import Derived.ProofKit
import Derived.OpenShut
import Derived.Deep.RegionHeld3
namespace Go.Proofs.Ytfohggiehbplkaa
open Go.ChangeShapes Go.WideShapes Go.ChangeAt Go.RowKit
set_option linter.unusedVariables false
set_option linter.unusedSimpArgs false

theorem inf21 (w : World) : Calls Try.prog 40 #[.int .i64 1] w fun e w' => e = .returned (.float .f64 infW) ∧ w' = w := by
  have hb := from_int
  go_enter Try.func40, Try.ntmps40
  go_wp2
  go_ret
  exact ⟨rfl, rfl⟩
/-- a cell of a row of cells is written -/
theorem rng_put {w : World} {b k : Nat} {l : List Value} {v : Value} (h : w.rangeAt b 0 l) : (w.setCell ⟨b, k, none⟩ v).rangeAt b 0 (l.set k v) := fun j u hj => by
  rw [List.getElem?_set] at hj
  split at hj
  · rename_i e
    subst e
    split at hj
    · rename_i hk
      cases hj
      rw [Nat.zero_add]
      have h0 := h k _ (List.getElem?_eq_getElem hk)
      rw [Nat.zero_add] at h0
      exact World.cell?_setCell_same _ _ _ h0
    · cases hj
  · rename_i e
    rw [World.cell?_setCell_other _ _ _ _ (by intro q; injection q with _ q2; exact e (by omega))]
    exact h j u hj
theorem thr_put {w : World} {b k c n : Nat} {v : Value} (h : w.there b 0 n) : (w.setCell ⟨c, k, none⟩ v).there b 0 n := World.there_setCells h c k [v]
theorem isF_le {x q r : Nat} (h : isF x q) (g : leK .f64 q r = true) : leK .f64 x r = true := by
  have e : x = q := isF_wd h (by
    intro e
    rw [e] at g
    unfold leK at g
    rw [show nanK .f64 9221120237041090560 = true by decide +kernel] at g
    cases g)
  rw [e]
  exact g
theorem most_le {p q r : Nat} (h : leK .f64 p r = true) (g : leK .f64 q r = true) : leK .f64 (mostK .f64 p q) r = true := by
  unfold mostK
  split
  · exact g
  · exact h
theorem onQ_ab (T : RD) (a b : SD) : (onQ T a b).ra = T.ra ∧ (onQ T a b).rb = T.rb := by
  unfold onQ
  cases slB T a b <;> exact ⟨rfl, rfl⟩
theorem rng_app {w : World} {b : Nat} {l1 l2 : List Value} (h : w.rangeAt b 0 (l1 ++ l2)) : w.rangeAt b 0 l1 ∧ w.rangeAt b l1.length l2 := by
  refine ⟨fun j u hj => ?_, fun j u hj => ?_⟩
  · refine h j u ?_
    rw [List.getElem?_append_left (by have := List.getElem?_eq_some_iff.1 hj; exact this.1)]
    exact hj
  · have := h (l1.length + j) u (by rw [List.getElem?_append_right (by omega), Nat.add_sub_cancel_left]; exact hj)
    rwa [Nat.zero_add] at this
theorem MlQ.mk9 {T : RD} {a b : SD} (h : mdB T.r2 = true ∧ mdB T.r3 = true ∧ mdB T.r4 = true ∧ mdB T.r5 = true ∧ mdB T.r6 = true ∧ mdB T.r7 = true ∧ mdB T.r8 = true ∧ mdB T.r11 = true) (ha : leK .f64 0 a.sm = true ∧ leK .f64 0 a.si = true ∧ mdB a.sm = true ∧ mdB a.si = true ∧ mdB a.sx = true ∧ mdB a.sy = true ∧ mdB a.ss = true) (hb : leK .f64 0 b.sm = true ∧ leK .f64 0 b.si = true ∧ mdB b.sm = true ∧ mdB b.si = true ∧ mdB b.sx = true ∧ mdB b.sy = true ∧ mdB b.ss = true) (e8 : T.r8 = 0) (e9 : T.r9 = 0) (e10 : T.r10 = infW) (e11 : T.r11 = 0) (e13 : T.r13 = 0) (ea : T.ra = 0) (eb : T.rb = 1) (eo : T.ro = -1) : MlQ T a b :=
  ⟨h.1, h.2.1, h.2.2.1, h.2.2.2.1, h.2.2.2.2.1, h.2.2.2.2.2.1, ha.1, ha.2.1, ha.2.2.1, ha.2.2.2.1, ha.2.2.2.2.1, ha.2.2.2.2.2.1, ha.2.2.2.2.2.2, hb.1, hb.2.1, hb.2.2.1, hb.2.2.2.1, hb.2.2.2.2.1, hb.2.2.2.2.2.1, hb.2.2.2.2.2.2, e8, e9, e10, e11, e13, ea, eb, eo⟩
theorem asE_one {Q : Nat → RD} {S : Nat → SD} (h : chB (Q 0) 1 2 = true) (h0 : stB (S 0) = true) (h1 : stB (S 1) = true) : asE Q 1 S 2 = 0 := by
  unfold asE
  rw [if_neg (by omega)]
  simp [crB, anyN, h, h0, h1]
theorem wp_put_i {P : Program} {op : Oper} {a : Act} {w : World} {K : Act → World → Prop} {Q : Exit → Act → World → Prop} (ty : TypeId) (x y : Operand) (ho : op.op = .store ty x y) (b o m : Nat) (n : Int) (hx : a.eval x = .pointer (some ⟨b, o, none⟩)) (hy : a.eval y = .int .i64 n) (ht : w.there b 0 m) (hk : o < m) (hi : (P.info? ty).map (·.size) = some 1)
    (I : World → Prop) (hI : I (w.setCell ⟨b, o, none⟩ (.int .i64 n))) (h : ∀ V, I V → K (a.put op.dst undef) V) : op.wp P a w K Q := by
  have c := ht o hk
  rw [Nat.zero_add] at c
  obtain ⟨u, hu⟩ := Option.isSome_iff_exists.1 c.1
  have q := run_store_float P
  unfold Oper.wp execOp
  cases hie : P.info? ty with
  | none => simp [hie] at hi
  | some ie =>
    simp only [hie, Option.map_some, Option.some.injEq] at hi
    simp only [ho, hx, hy, Instr.storeAt, Instr.sureAddr, Sem.run_bind, Sem.run_pure, Result.andThen_ok]
    simp [storeVar, sizeOf, typeInfo, hie, hi, go_sem, hu, c.2, q]
    exact h _ hI
theorem wp_put_f {P : Program} {op : Oper} {a : Act} {w : World} {K : Act → World → Prop} {Q : Exit → Act → World → Prop} (ty : TypeId) (x y : Operand) (ho : op.op = .store ty x y) (b o m : Nat) (n : Nat) (hx : a.eval x = .pointer (some ⟨b, o, none⟩)) (hy : a.eval y = .float .f64 n) (ht : w.there b 0 m) (hk : o < m) (hi : (P.info? ty).map (·.size) = some 1)
    (I : World → Prop) (hI : I (w.setCell ⟨b, o, none⟩ (.float .f64 n))) (h : ∀ V, I V → K (a.put op.dst undef) V) : op.wp P a w K Q := by
  have c := ht o hk
  rw [Nat.zero_add] at c
  obtain ⟨u, hu⟩ := Option.isSome_iff_exists.1 c.1
  have q := run_store_float P
  unfold Oper.wp execOp
  cases hie : P.info? ty with
  | none => simp [hie] at hi
  | some ie =>
    simp only [hie, Option.map_some, Option.some.injEq] at hi
    simp only [ho, hx, hy, Instr.storeAt, Instr.sureAddr, Sem.run_bind, Sem.run_pure, Result.andThen_ok]
    simp [storeVar, sizeOf, typeInfo, hie, hi, go_sem, hu, c.2, q]
    exact h _ hI
set_option maxRecDepth 100000 in
set_option maxHeartbeats 4000000 in
theorem so_x (R : RD) (a b : SD) (w : World) (oR : rok R) (oa : sok a) (ob : sok b) : Calls Try.prog 8 #[.agg #[.int .i64 R.ra, .int .i64 R.rb, .float .f64 R.r2, .float .f64 R.r3, .float .f64 R.r4, .float .f64 R.r5, .float .f64 R.r6, .float .f64 R.r7, .float .f64 R.r8, .float .f64 R.r9, .float .f64 R.r10, .float .f64 R.r11, .int .i64 R.ro, .float .f64 R.r13], .agg #[.float .f64 a.sm, .float .f64 a.si, .float .f64 a.sx, .float .f64 a.sy, .float .f64 a.ss], .agg #[.float .f64 b.sm, .float .f64 b.si, .float .f64 b.sx, .float .f64 b.sy, .float .f64 b.ss]] w fun e w' => e = .returned (.bool true) ∧ Bel w w' := by
  have okInf : okK .f64 infW := by rw [okK64]; decide
  have oT : rok (⟨0, 1, R.r2, R.r3, R.r4, R.r5, R.r6, R.r7, 0, 0, infW, 0, -1, 0⟩ : RD) := by
    obtain ⟨o2, o3, o4, o5, o6, o7, o8, o9, o10, o11, o13⟩ := oR
    exact ⟨o2, o3, o4, o5, o6, o7, ok_zero, ok_zero, okInf, ok_zero, ok_zero⟩
  obtain ⟨_, rfl, hR, hRt, hA, hAt, hBb, hBbt, B0, hz0⟩ := frm0 R a b w
  clear hAt hBbt
  go_enter Try.func8, Try.ntmps8
  repeat (first | go_skip | (go_at_call 27; refine (awake21 _).mono ?_; rintro e u0 ⟨rfl, b0⟩; replace hR := rng_bel hR b0; replace hA := rng_bel hA b0; replace hBb := rng_bel hBb b0; replace hRt := bel_there hRt b0; replace B0 := bl_trans B0 b0; clear b0) | (go_at_call 40; refine (inf21 _).mono ?_; rintro e v0 ⟨rfl, hv0⟩; rw [hv0]; clear hv0) | ((with_reducible show Oper.wp _ { dst := _, op := Op.store 3 _ _, type := _, pos := _, after := _, guard := _ } _ _ _ _); refine wp_put_i (P := Try.prog) 3 _ _ rfl (w.heap.size) 0 14 0 rfl rfl hRt (by decide) (by kernel_rfl) (fun V => Bel w V ∧ V.rangeAt (w.heap.size) 0 [.int .i64 0, .int .i64 R.rb, .float .f64 R.r2, .float .f64 R.r3, .float .f64 R.r4, .float .f64 R.r5, .float .f64 R.r6, .float .f64 R.r7, .float .f64 R.r8, .float .f64 R.r9, .float .f64 R.r10, .float .f64 R.r11, .int .i64 R.ro, .float .f64 R.r13] ∧ V.there (w.heap.size) 0 14 ∧ V.rangeAt (w.heap.size + 1) 0 [.float .f64 a.sm, .float .f64 a.si, .float .f64 a.sx, .float .f64 a.sy, .float .f64 a.ss] ∧ V.rangeAt (w.heap.size + 1 + 1) 0 [.float .f64 b.sm, .float .f64 b.si, .float .f64 b.sx, .float .f64 b.sy, .float .f64 b.ss]) ⟨bl_set B0 (Nat.le_refl _), rng_put hR, thr_put hRt, rng_set_far hA (by simp), rng_set_far hBb (by simp <;> omega)⟩ ?_; clear hR hRt hA hBb B0; rintro V0 ⟨B0, hR, hRt, hA, hBb⟩; simp only [go_sem]) | ((with_reducible show Oper.wp _ { dst := _, op := Op.store 3 _ _, type := _, pos := _, after := _, guard := _ } _ _ _ _); refine wp_put_i (P := Try.prog) 3 _ _ rfl (w.heap.size) 1 14 1 rfl rfl hRt (by decide) (by kernel_rfl) (fun V => Bel w V ∧ V.rangeAt (w.heap.size) 0 [.int .i64 0, .int .i64 1, .float .f64 R.r2, .float .f64 R.r3, .float .f64 R.r4, .float .f64 R.r5, .float .f64 R.r6, .float .f64 R.r7, .float .f64 R.r8, .float .f64 R.r9, .float .f64 R.r10, .float .f64 R.r11, .int .i64 R.ro, .float .f64 R.r13] ∧ V.there (w.heap.size) 0 14 ∧ V.rangeAt (w.heap.size + 1) 0 [.float .f64 a.sm, .float .f64 a.si, .float .f64 a.sx, .float .f64 a.sy, .float .f64 a.ss] ∧ V.rangeAt (w.heap.size + 1 + 1) 0 [.float .f64 b.sm, .float .f64 b.si, .float .f64 b.sx, .float .f64 b.sy, .float .f64 b.ss]) ⟨bl_set B0 (Nat.le_refl _), rng_put hR, thr_put hRt, rng_set_far hA (by simp), rng_set_far hBb (by simp <;> omega)⟩ ?_; clear hR hRt hA hBb B0; rintro V1 ⟨B0, hR, hRt, hA, hBb⟩; simp only [go_sem]) | ((with_reducible show Oper.wp _ { dst := _, op := Op.store 3 _ _, type := _, pos := _, after := _, guard := _ } _ _ _ _); refine wp_put_i (P := Try.prog) 3 _ _ rfl (w.heap.size) 12 14 (-1) rfl rfl hRt (by decide) (by kernel_rfl) (fun V => Bel w V ∧ V.rangeAt (w.heap.size) 0 [.int .i64 0, .int .i64 1, .float .f64 R.r2, .float .f64 R.r3, .float .f64 R.r4, .float .f64 R.r5, .float .f64 R.r6, .float .f64 R.r7, .float .f64 R.r8, .float .f64 R.r9, .float .f64 R.r10, .float .f64 R.r11, .int .i64 (-1), .float .f64 R.r13] ∧ V.there (w.heap.size) 0 14 ∧ V.rangeAt (w.heap.size + 1) 0 [.float .f64 a.sm, .float .f64 a.si, .float .f64 a.sx, .float .f64 a.sy, .float .f64 a.ss] ∧ V.rangeAt (w.heap.size + 1 + 1) 0 [.float .f64 b.sm, .float .f64 b.si, .float .f64 b.sx, .float .f64 b.sy, .float .f64 b.ss]) ⟨bl_set B0 (Nat.le_refl _), rng_put hR, thr_put hRt, rng_set_far hA (by simp), rng_set_far hBb (by simp <;> omega)⟩ ?_; clear hR hRt hA hBb B0; rintro V12 ⟨B0, hR, hRt, hA, hBb⟩; simp only [go_sem]) | ((with_reducible show Oper.wp _ { dst := _, op := Op.store 24 _ _, type := _, pos := _, after := _, guard := _ } _ _ _ _); refine wp_put_f (P := Try.prog) 24 _ _ rfl (w.heap.size) 13 14 0 rfl rfl hRt (by decide) (by kernel_rfl) (fun V => Bel w V ∧ V.rangeAt (w.heap.size) 0 [.int .i64 0, .int .i64 1, .float .f64 R.r2, .float .f64 R.r3, .float .f64 R.r4, .float .f64 R.r5, .float .f64 R.r6, .float .f64 R.r7, .float .f64 R.r8, .float .f64 R.r9, .float .f64 R.r10, .float .f64 R.r11, .int .i64 (-1), .float .f64 0] ∧ V.there (w.heap.size) 0 14 ∧ V.rangeAt (w.heap.size + 1) 0 [.float .f64 a.sm, .float .f64 a.si, .float .f64 a.sx, .float .f64 a.sy, .float .f64 a.ss] ∧ V.rangeAt (w.heap.size + 1 + 1) 0 [.float .f64 b.sm, .float .f64 b.si, .float .f64 b.sx, .float .f64 b.sy, .float .f64 b.ss]) ⟨bl_set B0 (Nat.le_refl _), rng_put hR, thr_put hRt, rng_set_far hA (by simp), rng_set_far hBb (by simp <;> omega)⟩ ?_; clear hR hRt hA hBb B0; rintro V13 ⟨B0, hR, hRt, hA, hBb⟩; simp only [go_sem]) | ((with_reducible show Oper.wp _ { dst := _, op := Op.store 24 _ _, type := _, pos := _, after := _, guard := _ } _ _ _ _); refine wp_put_f (P := Try.prog) 24 _ _ rfl (w.heap.size) 11 14 0 rfl rfl hRt (by decide) (by kernel_rfl) (fun V => Bel w V ∧ V.rangeAt (w.heap.size) 0 [.int .i64 0, .int .i64 1, .float .f64 R.r2, .float .f64 R.r3, .float .f64 R.r4, .float .f64 R.r5, .float .f64 R.r6, .float .f64 R.r7, .float .f64 R.r8, .float .f64 R.r9, .float .f64 R.r10, .float .f64 0, .int .i64 (-1), .float .f64 0] ∧ V.there (w.heap.size) 0 14 ∧ V.rangeAt (w.heap.size + 1) 0 [.float .f64 a.sm, .float .f64 a.si, .float .f64 a.sx, .float .f64 a.sy, .float .f64 a.ss] ∧ V.rangeAt (w.heap.size + 1 + 1) 0 [.float .f64 b.sm, .float .f64 b.si, .float .f64 b.sx, .float .f64 b.sy, .float .f64 b.ss]) ⟨bl_set B0 (Nat.le_refl _), rng_put hR, thr_put hRt, rng_set_far hA (by simp), rng_set_far hBb (by simp <;> omega)⟩ ?_; clear hR hRt hA hBb B0; rintro V11 ⟨B0, hR, hRt, hA, hBb⟩; simp only [go_sem]) | ((with_reducible show Oper.wp _ { dst := _, op := Op.store 24 _ _, type := _, pos := _, after := _, guard := _ } _ _ _ _); refine wp_put_f (P := Try.prog) 24 _ _ rfl (w.heap.size) 8 14 0 rfl rfl hRt (by decide) (by kernel_rfl) (fun V => Bel w V ∧ V.rangeAt (w.heap.size) 0 [.int .i64 0, .int .i64 1, .float .f64 R.r2, .float .f64 R.r3, .float .f64 R.r4, .float .f64 R.r5, .float .f64 R.r6, .float .f64 R.r7, .float .f64 0, .float .f64 R.r9, .float .f64 R.r10, .float .f64 0, .int .i64 (-1), .float .f64 0] ∧ V.there (w.heap.size) 0 14 ∧ V.rangeAt (w.heap.size + 1) 0 [.float .f64 a.sm, .float .f64 a.si, .float .f64 a.sx, .float .f64 a.sy, .float .f64 a.ss] ∧ V.rangeAt (w.heap.size + 1 + 1) 0 [.float .f64 b.sm, .float .f64 b.si, .float .f64 b.sx, .float .f64 b.sy, .float .f64 b.ss]) ⟨bl_set B0 (Nat.le_refl _), rng_put hR, thr_put hRt, rng_set_far hA (by simp), rng_set_far hBb (by simp <;> omega)⟩ ?_; clear hR hRt hA hBb B0; rintro V8 ⟨B0, hR, hRt, hA, hBb⟩; simp only [go_sem]) | ((with_reducible show Oper.wp _ { dst := _, op := Op.store 24 _ _, type := _, pos := _, after := _, guard := _ } _ _ _ _); refine wp_put_f (P := Try.prog) 24 _ _ rfl (w.heap.size) 9 14 0 rfl rfl hRt (by decide) (by kernel_rfl) (fun V => Bel w V ∧ V.rangeAt (w.heap.size) 0 [.int .i64 0, .int .i64 1, .float .f64 R.r2, .float .f64 R.r3, .float .f64 R.r4, .float .f64 R.r5, .float .f64 R.r6, .float .f64 R.r7, .float .f64 0, .float .f64 0, .float .f64 R.r10, .float .f64 0, .int .i64 (-1), .float .f64 0] ∧ V.there (w.heap.size) 0 14 ∧ V.rangeAt (w.heap.size + 1) 0 [.float .f64 a.sm, .float .f64 a.si, .float .f64 a.sx, .float .f64 a.sy, .float .f64 a.ss] ∧ V.rangeAt (w.heap.size + 1 + 1) 0 [.float .f64 b.sm, .float .f64 b.si, .float .f64 b.sx, .float .f64 b.sy, .float .f64 b.ss]) ⟨bl_set B0 (Nat.le_refl _), rng_put hR, thr_put hRt, rng_set_far hA (by simp), rng_set_far hBb (by simp <;> omega)⟩ ?_; clear hR hRt hA hBb B0; rintro V9 ⟨B0, hR, hRt, hA, hBb⟩; simp only [go_sem]) | ((with_reducible show Oper.wp _ { dst := _, op := Op.store 24 _ _, type := _, pos := _, after := _, guard := _ } _ _ _ _); refine wp_put_f (P := Try.prog) 24 _ _ rfl (w.heap.size) 10 14 infW rfl rfl hRt (by decide) (by kernel_rfl) (fun V => Bel w V ∧ V.rangeAt (w.heap.size) 0 [.int .i64 0, .int .i64 1, .float .f64 R.r2, .float .f64 R.r3, .float .f64 R.r4, .float .f64 R.r5, .float .f64 R.r6, .float .f64 R.r7, .float .f64 0, .float .f64 0, .float .f64 infW, .float .f64 0, .int .i64 (-1), .float .f64 0] ∧ V.there (w.heap.size) 0 14 ∧ V.rangeAt (w.heap.size + 1) 0 [.float .f64 a.sm, .float .f64 a.si, .float .f64 a.sx, .float .f64 a.sy, .float .f64 a.ss] ∧ V.rangeAt (w.heap.size + 1 + 1) 0 [.float .f64 b.sm, .float .f64 b.si, .float .f64 b.sx, .float .f64 b.sy, .float .f64 b.ss]) ⟨bl_set B0 (Nat.le_refl _), rng_put hR, thr_put hRt, rng_set_far hA (by simp), rng_set_far hBb (by simp <;> omega)⟩ ?_; clear hR hRt hA hBb B0; rintro V10 ⟨B0, hR, hRt, hA, hBb⟩; simp only [go_sem]) | ((with_reducible show Oper.wp _ { dst := _, op := Op.load 43 _, type := _, pos := _, after := _, guard := _ } _ _ _ _); refine wp_load_mid (P := Try.prog) 43 _ rfl (w.heap.size) 0 rfl [.int .i64 0, .int .i64 1, .float .f64 R.r2, .float .f64 R.r3, .float .f64 R.r4, .float .f64 R.r5, .float .f64 R.r6, .float .f64 R.r7, .float .f64 0, .float .f64 0, .float .f64 infW, .float .f64 0, .int .i64 (-1), .float .f64 0] _ hR Try.underlying43 rfl (by kernel_rfl) ?_; simp only [go_sem]) | ((with_reducible show wpList _ _ _ ({ dst := _, op := Op.load 45 _, type := _, pos := _, after := _, guard := some _ } :: _) _ _); refine wpList_gload (by kernel_rfl) 45 _ rfl (w.heap.size + 1) 0 rfl [.float .f64 a.sm, .float .f64 a.si, .float .f64 a.sx, .float .f64 a.sy, .float .f64 a.ss] _ hA Try.underlying45 rfl (by kernel_rfl) ?_; simp only [go_sem]) | ((with_reducible show wpList _ _ _ ({ dst := _, op := Op.load 45 _, type := _, pos := _, after := _, guard := some _ } :: _) _ _); refine wpList_gload (by kernel_rfl) 45 _ rfl (w.heap.size + 1 + 1) 0 rfl [.float .f64 b.sm, .float .f64 b.si, .float .f64 b.sx, .float .f64 b.sy, .float .f64 b.ss] _ hBb Try.underlying45 rfl (by kernel_rfl) ?_; simp only [go_sem]) | ((with_reducible show Oper.wp _ { dst := _, op := Op.load 45 _, type := _, pos := _, after := _, guard := _ } _ _ _ _); refine wp_load_mid (P := Try.prog) 45 _ rfl (w.heap.size + 1) 0 rfl [.float .f64 a.sm, .float .f64 a.si, .float .f64 a.sx, .float .f64 a.sy, .float .f64 a.ss] _ (by first | with_reducible exact hA | exact World.rangeAt_alloc hA _) Try.underlying45 rfl (by kernel_rfl) ?_; simp only [go_sem]) | ((with_reducible show Oper.wp _ { dst := _, op := Op.load 45 _, type := _, pos := _, after := _, guard := _ } _ _ _ _); refine wp_load_mid (P := Try.prog) 45 _ rfl (w.heap.size + 1 + 1) 0 rfl [.float .f64 b.sm, .float .f64 b.si, .float .f64 b.sx, .float .f64 b.sy, .float .f64 b.ss] _ (by first | with_reducible exact hBb | exact World.rangeAt_alloc hBb _) Try.underlying45 rfl (by kernel_rfl) ?_; simp only [go_sem]) | (go_at_call 41; (with_reducible refine (mildRow_w (⟨0, 1, R.r2, R.r3, R.r4, R.r5, R.r6, R.r7, 0, 0, infW, 0, -1, 0⟩ : RD) _ oT).mono ?_); rintro e u1 ⟨m1, hm1, rfl, b1⟩; replace hR := rng_bel hR b1; replace hA := rng_bel hA b1; replace hBb := rng_bel hBb b1; replace hRt := bel_there hRt b1; replace B0 := bl_trans B0 b1; clear b1; rcases (show m1 = false ∨ (m1 = true ∧ Mk 1) by cases m1 <;> simp [Mk]) with rfl | ⟨rfl, mk1⟩; rotate_left) | (go_at_call 42; (with_reducible refine (mildStill_w a _ oa).mono ?_); rintro e u2a ⟨ma, hma, rfl, b2⟩; replace hR := rng_bel hR b2; replace hA := rng_bel hA b2; replace hBb := rng_bel hBb b2; replace hRt := bel_there hRt b2; replace B0 := bl_trans B0 b2; clear b2; rcases (show ma = false ∨ (ma = true ∧ Mk 1) by cases ma <;> simp [Mk]) with rfl | ⟨rfl, mka⟩; rotate_left) | (go_at_call 42; (with_reducible refine (mildStill_w b _ ob).mono ?_); rintro e u2b ⟨mb, hmb, rfl, b2⟩; replace hR := rng_bel hR b2; replace hA := rng_bel hA b2; replace hBb := rng_bel hBb b2; replace hRt := bel_there hRt b2; replace B0 := bl_trans B0 b2; clear b2; rcases (show mb = false ∨ (mb = true ∧ Mk 1) by cases mb <;> simp [Mk]) with rfl | ⟨rfl, mkb⟩; rotate_left) | go_values | go_skip | go_guarded | go_step | go_upon | go_back | dsimp only)
  · have hD : MlQ (⟨0, 1, R.r2, R.r3, R.r4, R.r5, R.r6, R.r7, 0, 0, infW, 0, -1, 0⟩ : RD) a b := MlQ.mk9 (hm1 rfl) (hma rfl) (hmb rfl) rfl rfl rfl rfl rfl rfl rfl rfl
    have u := hD.un oT oa ob
    have O := one_r u rfl rfl rfl rfl
    have c12 := hD.asked u
    have st := hD.st u
    obtain ⟨i0, i1, i2, i3, i4, i5⟩ := it_one (T := (⟨0, 1, R.r2, R.r3, R.r4, R.r5, R.r6, R.r7, 0, 0, infW, 0, -1, 0⟩ : RD)) (a := a) (b := b) rfl rfl rfl rfl
    obtain ⟨W, hW⟩ : ∃ W, W = ((u2b.alloc (.cells #[.int .i64 0, .int .i64 1, .float .f64 R.r2, .float .f64 R.r3, .float .f64 R.r4, .float .f64 R.r5, .float .f64 R.r6, .float .f64 R.r7, .float .f64 0, .float .f64 0, .float .f64 infW, .float .f64 0, .int .i64 (-1), .float .f64 0] 43)).alloc (.cells #[.float .f64 a.sm, .float .f64 a.si, .float .f64 a.sx, .float .f64 a.sy, .float .f64 a.ss, .float .f64 b.sm, .float .f64 b.si, .float .f64 b.sx, .float .f64 b.sy, .float .f64 b.ss] 45)) := ⟨_, rfl⟩
    have B9 : Bel w W := by rw [hW]; exact bl_alloc (bl_alloc B0 _ _) _ _
    have hR9 : W.rangeAt (w.heap.size) 0 [.int .i64 0, .int .i64 1, .float .f64 R.r2, .float .f64 R.r3, .float .f64 R.r4, .float .f64 R.r5, .float .f64 R.r6, .float .f64 R.r7, .float .f64 0, .float .f64 0, .float .f64 infW, .float .f64 0, .int .i64 (-1), .float .f64 0] := by rw [hW]; exact World.rangeAt_alloc (World.rangeAt_alloc hR _) _
    have hA9 : W.rangeAt (w.heap.size + 1) 0 [.float .f64 a.sm, .float .f64 a.si, .float .f64 a.sx, .float .f64 a.sy, .float .f64 a.ss] := by rw [hW]; exact World.rangeAt_alloc (World.rangeAt_alloc hA _) _
    have hB9 : W.rangeAt (w.heap.size + 1 + 1) 0 [.float .f64 b.sm, .float .f64 b.si, .float .f64 b.sx, .float .f64 b.sy, .float .f64 b.ss] := by rw [hW]; exact World.rangeAt_alloc (World.rangeAt_alloc hBb _) _
    have hQ9 : Rws W u2b.heap.size 0 1 (fun _ => (⟨0, 1, R.r2, R.r3, R.r4, R.r5, R.r6, R.r7, 0, 0, infW, 0, -1, 0⟩ : RD)) := fun i hi => by
      obtain rfl : i = 0 := by omega
      rw [hW]
      exact World.rangeAt_alloc (rng_new u2b [.int .i64 0, .int .i64 1, .float .f64 R.r2, .float .f64 R.r3, .float .f64 R.r4, .float .f64 R.r5, .float .f64 R.r6, .float .f64 R.r7, .float .f64 0, .float .f64 0, .float .f64 infW, .float .f64 0, .int .i64 (-1), .float .f64 0] 43) _
    have hS9 : Sts W (u2b.heap.size + 1) 0 2 (twS a b) := by
      have h := rng_new (u2b.alloc (.cells #[.int .i64 0, .int .i64 1, .float .f64 R.r2, .float .f64 R.r3, .float .f64 R.r4, .float .f64 R.r5, .float .f64 R.r6, .float .f64 R.r7, .float .f64 0, .float .f64 0, .float .f64 infW, .float .f64 0, .int .i64 (-1), .float .f64 0] 43)) [.float .f64 a.sm, .float .f64 a.si, .float .f64 a.sx, .float .f64 a.sy, .float .f64 a.ss, .float .f64 b.sm, .float .f64 b.si, .float .f64 b.sx, .float .f64 b.sy, .float .f64 b.ss] 45
      rw [World.size_alloc] at h
      obtain ⟨h1, h2⟩ := rng_app (l1 := [.float .f64 a.sm, .float .f64 a.si, .float .f64 a.sx, .float .f64 a.sy, .float .f64 a.ss]) (l2 := [.float .f64 b.sm, .float .f64 b.si, .float .f64 b.sx, .float .f64 b.sy, .float .f64 b.ss]) h
      rw [hW]
      intro i hi
      rcases (show i = 0 ∨ i = 1 by omega) with rfl | rfl
      · exact h1
      · exact h2
    rw [← hW]
    clear hW hR hRt hA hBb B0
    have oQ : ∀ i, i < 1 → rok ((fun _ => (⟨0, 1, R.r2, R.r3, R.r4, R.r5, R.r6, R.r7, 0, 0, infW, 0, -1, 0⟩ : RD)) i) := fun _ _ => oT
    have oS : ∀ i, i < 2 → sok (twS a b i) := fun i hi => by
      rcases (show i = 0 ∨ i = 1 by omega) with rfl | rfl
      · exact oa
      · exact ob
    have has : asE (fun _ => (⟨0, 1, R.r2, R.r3, R.r4, R.r5, R.r6, R.r7, 0, 0, infW, 0, -1, 0⟩ : RD)) 1 (twS a b) 2 = 0 := asE_one c12 st.1 st.2
    have mx1 : 1 ≤ maxLen := by unfold maxLen; decide
    have mx2 : 2 ≤ maxLen := by unfold maxLen; decide
    refine (all_ok u2b.heap.size 0 1 1 _ (fun _ => (⟨0, 1, R.r2, R.r3, R.r4, R.r5, R.r6, R.r7, 0, 0, infW, 0, -1, 0⟩ : RD)) (u2b.heap.size + 1) 0 2 2 _ (twS a b) 1 W (.inr rfl) (Nat.le_refl _) mx1 hQ9 oQ (.inr rfl) (Nat.le_refl _) mx2 hS9 oS has (by omega)).mono ?_
    rintro e W1 ⟨v1, v2, ⟨gr, rc, rs, gs, sc, ss, rfl, rfl, k1, k2, k3, k4, k5, k6, k7, k8, k9, kR, kS⟩, rfl, b1⟩
    obtain rfl := k1.resolve_left (by omega)
    obtain rfl := k4.resolve_left (by omega)
    have hR1 := rng_bel hR9 b1
    have hA1 := rng_bel hA9 b1
    have hB1 := rng_bel hB9 b1
    have hQ1 := hQ9.bel b1
    have hS1 := hS9.bel b1
    have B1 := bl_trans B9 b1
    clear hR9 hA9 hB9 hQ9 hS9 B9 b1
    repeat (first | go_values | go_skip | go_guarded | go_step | go_upon | go_back | dsimp only)
    refine (all_ok u2b.heap.size 0 1 1 _ (fun _ => (⟨0, 1, R.r2, R.r3, R.r4, R.r5, R.r6, R.r7, 0, 0, infW, 0, -1, 0⟩ : RD)) (u2b.heap.size + 1) 0 2 2 _ (twS a b) 0 W1 (.inr rfl) (Nat.le_refl _) mx1 hQ1 oQ (.inr rfl) (Nat.le_refl _) mx2 hS1 oS has (by omega)).mono ?_
    rintro e W2 ⟨v1, v2, ⟨gr2, rc2, rs2, gs2, sc2, ss2, rfl, rfl, j1, j2, j3, j4, j5, j6, j7, j8, j9, jR, jS⟩, rfl, b2⟩
    obtain rfl := j1.resolve_left (by omega)
    obtain rfl := j4.resolve_left (by omega)
    have hR2 := rng_bel hR1 b2
    have hA2 := rng_bel hA1 b2
    have hB2 := rng_bel hB1 b2
    have hQ2 := hQ1.bel b2
    have hS2 := hS1.bel b2
    have B2 := bl_trans B1 b2
    have kR2 := kR.bel b2
    have kS2 := kS.bel b2
    clear hR1 hA1 hB1 hQ1 hS1 B1 b2 kR kS
    rw [i0] at jR jS
    have jR0 := jR.at_
    clear jR
    have ml1 : (1 : Nat) ≤ 9223372036854775807 := by decide
    repeat (first | (go_at_call 35; (with_reducible refine (sameRows9 gr2 0 rc2 u2b.heap.size 0 1 1 _ _ (fun _ => (⟨0, 1, R.r2, R.r3, R.r4, R.r5, R.r6, R.r7, 0, 0, infW, 0, -1, 0⟩ : RD)) _ (.inr rfl) (.inr rfl) j2 (Nat.le_refl _) ml1 jR0 hQ2 oQ).mono ?_); rintro e W3 ⟨rfl, b3⟩) | go_values | go_skip | go_guarded | go_step | go_upon | go_back | dsimp only)
    have hR3 := rng_bel hR2 b3
    have hA3 := rng_bel hA2 b3
    have hB3 := rng_bel hB2 b3
    have hS3 := hS2.bel b3
    have B3 := bl_trans B2 b3
    have kR3 := kR2.bel b3
    have kS3 := kS2.bel b3
    have jS3 := jS.bel b3
    clear hR2 hA2 hB2 hQ2 hS2 B2 b3 kR2 kS2 jS jR0
    obtain ⟨tlA, tlB⟩ := tl_us u
    rw [tlA, tlB] at i1 i2 i3 i4 i5
    obtain ⟨S2, sS2, sr2⟩ := jS3.at_
    have w0 : S2 0 = wA (⟨0, 1, R.r2, R.r3, R.r4, R.r5, R.r6, R.r7, 0, 0, infW, 0, -1, 0⟩ : RD) a b := by
      have h := sr2 0 (by omega)
      dsimp only at h
      rw [i1] at h
      exact rel_is h (O.u0.fv 0 (by omega)).bd (O.u0.fv 1 (by omega)).bd (O.u0.fv 2 (by omega)).bd
    have w1 : S2 1 = wB (⟨0, 1, R.r2, R.r3, R.r4, R.r5, R.r6, R.r7, 0, 0, infW, 0, -1, 0⟩ : RD) a b := by
      have h := sr2 1 (by omega)
      dsimp only at h
      rw [i2] at h
      exact rel_is h (O.u0.fv 3 (by omega)).bd (O.u0.fv 4 (by omega)).bd (O.u0.fv 5 (by omega)).bd
    have hzg : gs2 < W3.heap.size := sts_lt sS2 (show 0 < 2 by omega)
    have hzs : u2b.heap.size + 1 < W3.heap.size := sts_lt hS3 (show 0 < 2 by omega)
    have stW : stB (wA (⟨0, 1, R.r2, R.r3, R.r4, R.r5, R.r6, R.r7, 0, 0, infW, 0, -1, 0⟩ : RD) a b) = true ∧ stB (wB (⟨0, 1, R.r2, R.r3, R.r4, R.r5, R.r6, R.r7, 0, 0, infW, 0, -1, 0⟩ : RD) a b) = true := st
    obtain ⟨o1, o2, o3⟩ := on_all (T := (⟨0, 1, R.r2, R.r3, R.r4, R.r5, R.r6, R.r7, 0, 0, infW, 0, -1, 0⟩ : RD)) stW.1 stW.2
    have j3 : (itM (fun _ => (⟨0, 1, R.r2, R.r3, R.r4, R.r5, R.r6, R.r7, 0, 0, infW, 0, -1, 0⟩ : RD)) (fun i => tlS (twS a b i)) 1 1).1 0 = fT (⟨0, 1, R.r2, R.r3, R.r4, R.r5, R.r6, R.r7, 0, 0, infW, 0, -1, 0⟩ : RD) a b := i3.trans o1
    have j4 : (itM (fun _ => (⟨0, 1, R.r2, R.r3, R.r4, R.r5, R.r6, R.r7, 0, 0, infW, 0, -1, 0⟩ : RD)) (fun i => tlS (twS a b i)) 1 1).2 0 = fA (⟨0, 1, R.r2, R.r3, R.r4, R.r5, R.r6, R.r7, 0, 0, infW, 0, -1, 0⟩ : RD) a b := i4.trans o2
    have j5 : (itM (fun _ => (⟨0, 1, R.r2, R.r3, R.r4, R.r5, R.r6, R.r7, 0, 0, infW, 0, -1, 0⟩ : RD)) (fun i => tlS (twS a b i)) 1 1).2 1 = fB (⟨0, 1, R.r2, R.r3, R.r4, R.r5, R.r6, R.r7, 0, 0, infW, 0, -1, 0⟩ : RD) a b := i5.trans o3
    obtain ⟨v1_, v2_, v3_⟩ := it_inv (Q := fun _ => (⟨0, 1, R.r2, R.r3, R.r4, R.r5, R.r6, R.r7, 0, 0, infW, 0, -1, 0⟩ : RD)) (M := fun i => tlS (twS a b i)) (n := 1) (m := 2) (rn := 1) (fun _ _ => c12) oQ 1
    obtain ⟨S1, sS1, sr1⟩ := kS3.at_
    have f0 : S1 0 = fA (⟨0, 1, R.r2, R.r3, R.r4, R.r5, R.r6, R.r7, 0, 0, infW, 0, -1, 0⟩ : RD) a b := by
      have h := sr1 0 (by omega)
      rw [j4] at h
      exact rel_is h (O.bv 0 (by omega)) (O.bv 1 (by omega)) (O.bv 2 (by omega))
    have f1 : S1 1 = fB (⟨0, 1, R.r2, R.r3, R.r4, R.r5, R.r6, R.r7, 0, 0, infW, 0, -1, 0⟩ : RD) a b := by
      have h := sr1 1 (by omega)
      rw [j5] at h
      exact rel_is h (O.bv 3 (by omega)) (O.bv 4 (by omega)) (O.bv 5 (by omega))
    have oS1 : ∀ i, i < 2 → sok (S1 i) := fun i hi => by
      obtain ⟨_, _, x, y, z, p, q⟩ := sr1 i hi
      exact ⟨x, y, z.1, p.1, q.1⟩
    have stS : ∀ i, i < 2 → stB (S1 i) = true := fun i hi => by
      obtain ⟨e1, e2, _⟩ := sr1 i hi
      show (weB (S1 i).sm && weB (S1 i).si) = true
      rw [e1, e2]
      refine (v3_ i).trans ?_
      rcases (show i = 0 ∨ i = 1 by omega) with rfl | rfl
      · exact st.1
      · exact st.2
    have has1 : asE (itM (fun _ => (⟨0, 1, R.r2, R.r3, R.r4, R.r5, R.r6, R.r7, 0, 0, infW, 0, -1, 0⟩ : RD)) (fun i => tlS (twS a b i)) 1 1).1 1 S1 2 = 0 := asE_one (v1_ 0 (by omega)) (stS 0 (by omega)) (stS 1 (by omega))
    have hal : alB (⟨0, 1, R.r2, R.r3, R.r4, R.r5, R.r6, R.r7, 0, 0, infW, 0, -1, 0⟩ : RD) a b = true := by
      have h := c12
      unfold chB at h
      rw [Bool.and_eq_true] at h
      unfold alB
      rw [h.1, st.1, st.2]
      rfl
    go_loopw [16] (fun i wr => ∃ k : Nat, k ≤ 2 ∧ i = .int .i64 k ∧ Bel W3 wr) (fun i _ => 2 - (intOf i).toNat)
    case atStart => exact ⟨0, by omega, rfl, bl_refl _⟩
    case round =>
      obtain ⟨k, hk, rfl, hB⟩ := hrel
      have q1 := fun (x y : Nat) (w : World) => run_equalIn_float Try.prog w 24 .f64 x y Try.underlying24
      have cn := cmp_ne .f64
      have ce := cmp_eq .f64
      rcases (show k = 0 ∨ k = 1 ∨ k = 2 by omega) with rfl | rfl | rfl
      · have g0 : wr.cell? ⟨gs2, 2, none⟩ = some (.float .f64 (wA (⟨0, 1, R.r2, R.r3, R.r4, R.r5, R.r6, R.r7, 0, 0, infW, 0, -1, 0⟩ : RD) a b).sx) := by have h := (rng_bel (sS2 0 (by omega)) hB) 2 (.float .f64 (wA (⟨0, 1, R.r2, R.r3, R.r4, R.r5, R.r6, R.r7, 0, 0, infW, 0, -1, 0⟩ : RD) a b).sx) (by rw [w0]; rfl); simpa using h
        have s0 : wr.cell? ⟨u2b.heap.size + 1, 2, none⟩ = some (.float .f64 a.sx) := by have h := (rng_bel (hS3 0 (by omega)) hB) 2 (.float .f64 a.sx) rfl; simpa using h
        have e0 : eqK .f64 (wA (⟨0, 1, R.r2, R.r3, R.r4, R.r5, R.r6, R.r7, 0, 0, infW, 0, -1, 0⟩ : RD) a b).sx a.sx = true := O.same 0 (by omega)
        have g1 : wr.cell? ⟨gs2, 3, none⟩ = some (.float .f64 (wA (⟨0, 1, R.r2, R.r3, R.r4, R.r5, R.r6, R.r7, 0, 0, infW, 0, -1, 0⟩ : RD) a b).sy) := by have h := (rng_bel (sS2 0 (by omega)) hB) 3 (.float .f64 (wA (⟨0, 1, R.r2, R.r3, R.r4, R.r5, R.r6, R.r7, 0, 0, infW, 0, -1, 0⟩ : RD) a b).sy) (by rw [w0]; rfl); simpa using h
        have s1 : wr.cell? ⟨u2b.heap.size + 1, 3, none⟩ = some (.float .f64 a.sy) := by have h := (rng_bel (hS3 0 (by omega)) hB) 3 (.float .f64 a.sy) rfl; simpa using h
        have e1 : eqK .f64 (wA (⟨0, 1, R.r2, R.r3, R.r4, R.r5, R.r6, R.r7, 0, 0, infW, 0, -1, 0⟩ : RD) a b).sy a.sy = true := O.same 1 (by omega)
        have g2 : wr.cell? ⟨gs2, 4, none⟩ = some (.float .f64 (wA (⟨0, 1, R.r2, R.r3, R.r4, R.r5, R.r6, R.r7, 0, 0, infW, 0, -1, 0⟩ : RD) a b).ss) := by have h := (rng_bel (sS2 0 (by omega)) hB) 4 (.float .f64 (wA (⟨0, 1, R.r2, R.r3, R.r4, R.r5, R.r6, R.r7, 0, 0, infW, 0, -1, 0⟩ : RD) a b).ss) (by rw [w0]; rfl); simpa using h
        have s2 : wr.cell? ⟨u2b.heap.size + 1, 4, none⟩ = some (.float .f64 a.ss) := by have h := (rng_bel (hS3 0 (by omega)) hB) 4 (.float .f64 a.ss) rfl; simpa using h
        have e2 : eqK .f64 (wA (⟨0, 1, R.r2, R.r3, R.r4, R.r5, R.r6, R.r7, 0, 0, infW, 0, -1, 0⟩ : RD) a b).ss a.ss = true := O.same 2 (by omega)
        go_wp2
        have BN := belBy_some wr
        replace g0 := belBy_cell (W := wr) g0
        replace g1 := belBy_cell (W := wr) g1
        replace g2 := belBy_cell (W := wr) g2
        replace s0 := belBy_cell (W := wr) s0
        replace s1 := belBy_cell (W := wr) s1
        replace s2 := belBy_cell (W := wr) s2
        refine wp_region_quiet_bel (by kernel_rfl) (by kernel_rfl) ?_
        repeat (go_big_quiet_step (first | fail))
        refine wpQuiet_nil ?_
        rintro _ ⟨pW, rfl⟩
        go_wp2
        exact ⟨⟨1, by omega, by go_num, bl_trans hB pW.h⟩, by simp [intOf]⟩
      · have g0 : wr.cell? ⟨gs2, 7, none⟩ = some (.float .f64 (wB (⟨0, 1, R.r2, R.r3, R.r4, R.r5, R.r6, R.r7, 0, 0, infW, 0, -1, 0⟩ : RD) a b).sx) := by have h := (rng_bel (sS2 1 (by omega)) hB) 2 (.float .f64 (wB (⟨0, 1, R.r2, R.r3, R.r4, R.r5, R.r6, R.r7, 0, 0, infW, 0, -1, 0⟩ : RD) a b).sx) (by rw [w1]; rfl); simpa using h
        have s0 : wr.cell? ⟨u2b.heap.size + 1, 7, none⟩ = some (.float .f64 b.sx) := by have h := (rng_bel (hS3 1 (by omega)) hB) 2 (.float .f64 b.sx) rfl; simpa using h
        have e0 : eqK .f64 (wB (⟨0, 1, R.r2, R.r3, R.r4, R.r5, R.r6, R.r7, 0, 0, infW, 0, -1, 0⟩ : RD) a b).sx b.sx = true := O.same 3 (by omega)
        have g1 : wr.cell? ⟨gs2, 8, none⟩ = some (.float .f64 (wB (⟨0, 1, R.r2, R.r3, R.r4, R.r5, R.r6, R.r7, 0, 0, infW, 0, -1, 0⟩ : RD) a b).sy) := by have h := (rng_bel (sS2 1 (by omega)) hB) 3 (.float .f64 (wB (⟨0, 1, R.r2, R.r3, R.r4, R.r5, R.r6, R.r7, 0, 0, infW, 0, -1, 0⟩ : RD) a b).sy) (by rw [w1]; rfl); simpa using h
        have s1 : wr.cell? ⟨u2b.heap.size + 1, 8, none⟩ = some (.float .f64 b.sy) := by have h := (rng_bel (hS3 1 (by omega)) hB) 3 (.float .f64 b.sy) rfl; simpa using h
        have e1 : eqK .f64 (wB (⟨0, 1, R.r2, R.r3, R.r4, R.r5, R.r6, R.r7, 0, 0, infW, 0, -1, 0⟩ : RD) a b).sy b.sy = true := O.same 4 (by omega)
        have g2 : wr.cell? ⟨gs2, 9, none⟩ = some (.float .f64 (wB (⟨0, 1, R.r2, R.r3, R.r4, R.r5, R.r6, R.r7, 0, 0, infW, 0, -1, 0⟩ : RD) a b).ss) := by have h := (rng_bel (sS2 1 (by omega)) hB) 4 (.float .f64 (wB (⟨0, 1, R.r2, R.r3, R.r4, R.r5, R.r6, R.r7, 0, 0, infW, 0, -1, 0⟩ : RD) a b).ss) (by rw [w1]; rfl); simpa using h
        have s2 : wr.cell? ⟨u2b.heap.size + 1, 9, none⟩ = some (.float .f64 b.ss) := by have h := (rng_bel (hS3 1 (by omega)) hB) 4 (.float .f64 b.ss) rfl; simpa using h
        have e2 : eqK .f64 (wB (⟨0, 1, R.r2, R.r3, R.r4, R.r5, R.r6, R.r7, 0, 0, infW, 0, -1, 0⟩ : RD) a b).ss b.ss = true := O.same 5 (by omega)
        go_wp2
        have BN := belBy_some wr
        replace g0 := belBy_cell (W := wr) g0
        replace g1 := belBy_cell (W := wr) g1
        replace g2 := belBy_cell (W := wr) g2
        replace s0 := belBy_cell (W := wr) s0
        replace s1 := belBy_cell (W := wr) s1
        replace s2 := belBy_cell (W := wr) s2
        refine wp_region_quiet_bel (by kernel_rfl) (by kernel_rfl) ?_
        repeat (go_big_quiet_step (first | fail))
        refine wpQuiet_nil ?_
        rintro _ ⟨pW, rfl⟩
        go_wp2
        exact ⟨⟨2, by omega, by go_num, bl_trans hB pW.h⟩, by simp [intOf]⟩
      · clear cn ce q1
        have hR4 := rng_bel hR3 hB
        have hA4 := rng_bel hA3 hB
        have hB4 := rng_bel hB3 hB
        have hr4 := kR3.at_.bel hB
        have hs4 := sS1.bel hB
        have B4 := bl_trans B3 hB
        have kp : wr.cell? ⟨gr, 11, none⟩ = some (.float .f64 (fT (⟨0, 1, R.r2, R.r3, R.r4, R.r5, R.r6, R.r7, 0, 0, infW, 0, -1, 0⟩ : RD) a b).r11) := by
          have h := (hr4 0 (by omega)) 11 (.float .f64 (fT (⟨0, 1, R.r2, R.r3, R.r4, R.r5, R.r6, R.r7, 0, 0, infW, 0, -1, 0⟩ : RD) a b).r11) (by rw [j3]; rfl)
          simpa using h
        have q0 := O.q0
        have cl := cmp_lt .f64
        repeat (first | (go_at_call 33; (with_reducible refine (left_ok gr 0 1 rc _ (itM (fun _ => (⟨0, 1, R.r2, R.r3, R.r4, R.r5, R.r6, R.r7, 0, 0, infW, 0, -1, 0⟩ : RD)) (fun i => tlS (twS a b i)) 1 1).1 gs 0 2 sc _ S1 _ (.inr rfl) k2 k3 hr4 v2_ (.inr rfl) k5 k6 hs4 oS1 has1).mono ?_); rintro e u5 ⟨xl, hxl, rfl, b5⟩; replace hR4 := rng_bel hR4 b5; replace hA4 := rng_bel hA4 b5; replace hB4 := rng_bel hB4 b5; replace hr4 := hr4.bel b5; replace hs4 := hs4.bel b5; replace B4 := bl_trans B4 b5; replace kp := keep b5 kp) | (go_at_call 17; (with_reducible refine (wgt_ok (⟨0, 1, R.r2, R.r3, R.r4, R.r5, R.r6, R.r7, 0, 0, infW, 0, -1, 0⟩ : RD) a b _ oT oa ob hal).mono ?_); rintro e u6 ⟨wt, hwt, rfl, b6⟩; replace hR4 := rng_bel hR4 b6; replace hA4 := rng_bel hA4 b6; replace hB4 := rng_bel hB4 b6; replace hr4 := hr4.bel b6; replace hs4 := hs4.bel b6; replace B4 := bl_trans B4 b6; replace kp := keep b6 kp) | ((with_reducible show Oper.wp _ { dst := _, op := Op.load 43 _, type := _, pos := _, after := _, guard := _ } _ _ _ _); refine wp_load_mid (P := Try.prog) 43 _ rfl (w.heap.size) 0 rfl [.int .i64 0, .int .i64 1, .float .f64 R.r2, .float .f64 R.r3, .float .f64 R.r4, .float .f64 R.r5, .float .f64 R.r6, .float .f64 R.r7, .float .f64 0, .float .f64 0, .float .f64 infW, .float .f64 0, .int .i64 (-1), .float .f64 0] _ hR4 Try.underlying43 rfl (by kernel_rfl) ?_; simp only [go_sem]) | ((with_reducible show Oper.wp _ { dst := _, op := Op.load 45 _, type := _, pos := _, after := _, guard := _ } _ _ _ _); refine wp_load_mid (P := Try.prog) 45 _ rfl (w.heap.size + 1) 0 rfl [.float .f64 a.sm, .float .f64 a.si, .float .f64 a.sx, .float .f64 a.sy, .float .f64 a.ss] _ hA4 Try.underlying45 rfl (by kernel_rfl) ?_; simp only [go_sem]) | ((with_reducible show Oper.wp _ { dst := _, op := Op.load 45 _, type := _, pos := _, after := _, guard := _ } _ _ _ _); refine wp_load_mid (P := Try.prog) 45 _ rfl (w.heap.size + 1 + 1) 0 rfl [.float .f64 b.sm, .float .f64 b.si, .float .f64 b.sx, .float .f64 b.sy, .float .f64 b.ss] _ hB4 Try.underlying45 rfl (by kernel_rfl) ?_; simp only [go_sem]) | go_values | go_skip | go_guarded | go_step | go_upon | go_back | dsimp only)
        obtain rfl : wt = wtF (⟨0, 1, R.r2, R.r3, R.r4, R.r5, R.r6, R.r7, 0, 0, infW, 0, -1, 0⟩ : RD) a b := bd_word hwt (by rw [wt_eqW u]; exact (wt_num u.fa u.fm u.fm0).1)
        have hA40 := fun i hi => (u.fa i hi).bd
        have hV0 := fun i hi => bd_mono (u.fv i hi).bd (show 40 ≤ 600 by omega)
        have g1 := (sp_bd hA40 hV0).2
        have g2 := (sp_bd hA40 O.bv).2
        have bX := (add_oB g1 g2 (by omega)).1
        have x1 := fun W => run_add_o 24 W g1 g2 (by omega)
        have x2 : ∀ W : World, (binOp .mul 24 (.float .f64 4472074429978902528) (.float .f64 (oF .add (goW (AW (⟨0, 1, R.r2, R.r3, R.r4, R.r5, R.r6, R.r7, 0, 0, infW, 0, -1, 0⟩ : RD)) (VW a b)) (goW (AW (⟨0, 1, R.r2, R.r3, R.r4, R.r5, R.r6, R.r7, 0, 0, infW, 0, -1, 0⟩ : RD)) (VW (fA (⟨0, 1, R.r2, R.r3, R.r4, R.r5, R.r6, R.r7, 0, 0, infW, 0, -1, 0⟩ : RD) a b) (fB (⟨0, 1, R.r2, R.r3, R.r4, R.r5, R.r6, R.r7, 0, 0, infW, 0, -1, 0⟩ : RD) a b)))))).run Try.prog W = .ok (.float .f64 (bnR (⟨0, 1, R.r2, R.r3, R.r4, R.r5, R.r6, R.r7, 0, 0, infW, 0, -1, 0⟩ : RD) a b)) W := fun W => run_mul_o 24 W c30_bd bX (by omega)
        have cg := cmp_gt .f64
        have ce := cmp_le .f64
        have hl : ltK .f64 0 (wtF (⟨0, 1, R.r2, R.r3, R.r4, R.r5, R.r6, R.r7, 0, 0, infW, 0, -1, 0⟩ : RD) a b) = true → leK .f64 xl (bnR (⟨0, 1, R.r2, R.r3, R.r4, R.r5, R.r6, R.r7, 0, 0, infW, 0, -1, 0⟩ : RD) a b) = true := fun hw => by
          obtain ⟨y1, y2⟩ := O.off hw
          refine isF_le hxl ?_
          unfold leM leM
          refine most_le y2 ?_
          rw [j3]
          unfold fT
          rw [(onQ_ab (⟨0, 1, R.r2, R.r3, R.r4, R.r5, R.r6, R.r7, 0, 0, infW, 0, -1, 0⟩ : RD) (wA (⟨0, 1, R.r2, R.r3, R.r4, R.r5, R.r6, R.r7, 0, 0, infW, 0, -1, 0⟩ : RD) a b) (wB (⟨0, 1, R.r2, R.r3, R.r4, R.r5, R.r6, R.r7, 0, 0, infW, 0, -1, 0⟩ : RD) a b)).1, (onQ_ab (⟨0, 1, R.r2, R.r3, R.r4, R.r5, R.r6, R.r7, 0, 0, infW, 0, -1, 0⟩ : RD) (wA (⟨0, 1, R.r2, R.r3, R.r4, R.r5, R.r6, R.r7, 0, 0, infW, 0, -1, 0⟩ : RD) a b) (wB (⟨0, 1, R.r2, R.r3, R.r4, R.r5, R.r6, R.r7, 0, 0, infW, 0, -1, 0⟩ : RD) a b)).2]
          simp only [show (0 : Int).toNat = 0 from rfl, show (1 : Int).toNat = 1 from rfl]
          rw [f0, f1]
          exact y1
        clear hxl hwt kp q0 cl
        have hm1 : ∀ W : World, Calls Try.prog 43 #[.agg #[.int .i64 0, .int .i64 1, .float .f64 R.r2, .float .f64 R.r3, .float .f64 R.r4, .float .f64 R.r5, .float .f64 R.r6, .float .f64 R.r7, .float .f64 0, .float .f64 0, .float .f64 infW, .float .f64 0, .int .i64 (-1), .float .f64 0], .agg #[.float .f64 a.sm, .float .f64 a.si, .float .f64 a.sx, .float .f64 a.sy, .float .f64 a.ss], .agg #[.float .f64 b.sm, .float .f64 b.si, .float .f64 b.sx, .float .f64 b.sy, .float .f64 b.ss]] W fun e w' => e = .returned (.float .f64 (goW (AW (⟨0, 1, R.r2, R.r3, R.r4, R.r5, R.r6, R.r7, 0, 0, infW, 0, -1, 0⟩ : RD)) (VW a b))) ∧ Bel W w' := fun W => made_w (⟨0, 1, R.r2, R.r3, R.r4, R.r5, R.r6, R.r7, 0, 0, infW, 0, -1, 0⟩ : RD) a b W hA40 hV0
        have hm2 : ∀ W : World, Calls Try.prog 43 #[.agg #[.int .i64 0, .int .i64 1, .float .f64 R.r2, .float .f64 R.r3, .float .f64 R.r4, .float .f64 R.r5, .float .f64 R.r6, .float .f64 R.r7, .float .f64 0, .float .f64 0, .float .f64 infW, .float .f64 0, .int .i64 (-1), .float .f64 0], .agg #[.float .f64 (fA (⟨0, 1, R.r2, R.r3, R.r4, R.r5, R.r6, R.r7, 0, 0, infW, 0, -1, 0⟩ : RD) a b).sm, .float .f64 (fA (⟨0, 1, R.r2, R.r3, R.r4, R.r5, R.r6, R.r7, 0, 0, infW, 0, -1, 0⟩ : RD) a b).si, .float .f64 (fA (⟨0, 1, R.r2, R.r3, R.r4, R.r5, R.r6, R.r7, 0, 0, infW, 0, -1, 0⟩ : RD) a b).sx, .float .f64 (fA (⟨0, 1, R.r2, R.r3, R.r4, R.r5, R.r6, R.r7, 0, 0, infW, 0, -1, 0⟩ : RD) a b).sy, .float .f64 (fA (⟨0, 1, R.r2, R.r3, R.r4, R.r5, R.r6, R.r7, 0, 0, infW, 0, -1, 0⟩ : RD) a b).ss], .agg #[.float .f64 (fB (⟨0, 1, R.r2, R.r3, R.r4, R.r5, R.r6, R.r7, 0, 0, infW, 0, -1, 0⟩ : RD) a b).sm, .float .f64 (fB (⟨0, 1, R.r2, R.r3, R.r4, R.r5, R.r6, R.r7, 0, 0, infW, 0, -1, 0⟩ : RD) a b).si, .float .f64 (fB (⟨0, 1, R.r2, R.r3, R.r4, R.r5, R.r6, R.r7, 0, 0, infW, 0, -1, 0⟩ : RD) a b).sx, .float .f64 (fB (⟨0, 1, R.r2, R.r3, R.r4, R.r5, R.r6, R.r7, 0, 0, infW, 0, -1, 0⟩ : RD) a b).sy, .float .f64 (fB (⟨0, 1, R.r2, R.r3, R.r4, R.r5, R.r6, R.r7, 0, 0, infW, 0, -1, 0⟩ : RD) a b).ss]] W fun e w' => e = .returned (.float .f64 (goW (AW (⟨0, 1, R.r2, R.r3, R.r4, R.r5, R.r6, R.r7, 0, 0, infW, 0, -1, 0⟩ : RD)) (VW (fA (⟨0, 1, R.r2, R.r3, R.r4, R.r5, R.r6, R.r7, 0, 0, infW, 0, -1, 0⟩ : RD) a b) (fB (⟨0, 1, R.r2, R.r3, R.r4, R.r5, R.r6, R.r7, 0, 0, infW, 0, -1, 0⟩ : RD) a b)))) ∧ Bel W w' := fun W => made_w (⟨0, 1, R.r2, R.r3, R.r4, R.r5, R.r6, R.r7, 0, 0, infW, 0, -1, 0⟩ : RD) (fA (⟨0, 1, R.r2, R.r3, R.r4, R.r5, R.r6, R.r7, 0, 0, infW, 0, -1, 0⟩ : RD) a b) (fB (⟨0, 1, R.r2, R.r3, R.r4, R.r5, R.r6, R.r7, 0, 0, infW, 0, -1, 0⟩ : RD) a b) W hA40 O.bv
        have z0 : u6.cell? ⟨w.heap.size, 0, none⟩ = some (.int .i64 0) := by have h := hR4 0 (.int .i64 0) rfl; rwa [Nat.zero_add] at h
        have z1 : u6.cell? ⟨w.heap.size, 1, none⟩ = some (.int .i64 1) := by have h := hR4 1 (.int .i64 1) rfl; rwa [Nat.zero_add] at h
        have z2 : u6.cell? ⟨w.heap.size, 2, none⟩ = some (.float .f64 R.r2) := by have h := hR4 2 (.float .f64 R.r2) rfl; rwa [Nat.zero_add] at h
        have z3 : u6.cell? ⟨w.heap.size, 3, none⟩ = some (.float .f64 R.r3) := by have h := hR4 3 (.float .f64 R.r3) rfl; rwa [Nat.zero_add] at h
        have z4 : u6.cell? ⟨w.heap.size, 4, none⟩ = some (.float .f64 R.r4) := by have h := hR4 4 (.float .f64 R.r4) rfl; rwa [Nat.zero_add] at h
        have z5 : u6.cell? ⟨w.heap.size, 5, none⟩ = some (.float .f64 R.r5) := by have h := hR4 5 (.float .f64 R.r5) rfl; rwa [Nat.zero_add] at h
        have z6 : u6.cell? ⟨w.heap.size, 6, none⟩ = some (.float .f64 R.r6) := by have h := hR4 6 (.float .f64 R.r6) rfl; rwa [Nat.zero_add] at h
        have z7 : u6.cell? ⟨w.heap.size, 7, none⟩ = some (.float .f64 R.r7) := by have h := hR4 7 (.float .f64 R.r7) rfl; rwa [Nat.zero_add] at h
        have z8 : u6.cell? ⟨w.heap.size, 8, none⟩ = some (.float .f64 0) := by have h := hR4 8 (.float .f64 0) rfl; rwa [Nat.zero_add] at h
        have z9 : u6.cell? ⟨w.heap.size, 9, none⟩ = some (.float .f64 0) := by have h := hR4 9 (.float .f64 0) rfl; rwa [Nat.zero_add] at h
        have z10 : u6.cell? ⟨w.heap.size, 10, none⟩ = some (.float .f64 infW) := by have h := hR4 10 (.float .f64 infW) rfl; rwa [Nat.zero_add] at h
        have z11 : u6.cell? ⟨w.heap.size, 11, none⟩ = some (.float .f64 0) := by have h := hR4 11 (.float .f64 0) rfl; rwa [Nat.zero_add] at h
        have z12 : u6.cell? ⟨w.heap.size, 12, none⟩ = some (.int .i64 (-1)) := by have h := hR4 12 (.int .i64 (-1)) rfl; rwa [Nat.zero_add] at h
        have z13 : u6.cell? ⟨w.heap.size, 13, none⟩ = some (.float .f64 0) := by have h := hR4 13 (.float .f64 0) rfl; rwa [Nat.zero_add] at h
        have a0 : u6.cell? ⟨w.heap.size + 1, 0, none⟩ = some (.float .f64 a.sm) := by have h := hA4 0 (.float .f64 a.sm) rfl; rwa [Nat.zero_add] at h
        have a1 : u6.cell? ⟨w.heap.size + 1, 1, none⟩ = some (.float .f64 a.si) := by have h := hA4 1 (.float .f64 a.si) rfl; rwa [Nat.zero_add] at h
        have a2 : u6.cell? ⟨w.heap.size + 1, 2, none⟩ = some (.float .f64 a.sx) := by have h := hA4 2 (.float .f64 a.sx) rfl; rwa [Nat.zero_add] at h
        have a3 : u6.cell? ⟨w.heap.size + 1, 3, none⟩ = some (.float .f64 a.sy) := by have h := hA4 3 (.float .f64 a.sy) rfl; rwa [Nat.zero_add] at h
        have a4 : u6.cell? ⟨w.heap.size + 1, 4, none⟩ = some (.float .f64 a.ss) := by have h := hA4 4 (.float .f64 a.ss) rfl; rwa [Nat.zero_add] at h
        have b0 : u6.cell? ⟨w.heap.size + 1 + 1, 0, none⟩ = some (.float .f64 b.sm) := by have h := hB4 0 (.float .f64 b.sm) rfl; rwa [Nat.zero_add] at h
        have b1 : u6.cell? ⟨w.heap.size + 1 + 1, 1, none⟩ = some (.float .f64 b.si) := by have h := hB4 1 (.float .f64 b.si) rfl; rwa [Nat.zero_add] at h
        have b2 : u6.cell? ⟨w.heap.size + 1 + 1, 2, none⟩ = some (.float .f64 b.sx) := by have h := hB4 2 (.float .f64 b.sx) rfl; rwa [Nat.zero_add] at h
        have b3 : u6.cell? ⟨w.heap.size + 1 + 1, 3, none⟩ = some (.float .f64 b.sy) := by have h := hB4 3 (.float .f64 b.sy) rfl; rwa [Nat.zero_add] at h
        have b4 : u6.cell? ⟨w.heap.size + 1 + 1, 4, none⟩ = some (.float .f64 b.ss) := by have h := hB4 4 (.float .f64 b.ss) rfl; rwa [Nat.zero_add] at h
        have p0 : u6.cell? ⟨gs, 0, none⟩ = some (.float .f64 (fA (⟨0, 1, R.r2, R.r3, R.r4, R.r5, R.r6, R.r7, 0, 0, infW, 0, -1, 0⟩ : RD) a b).sm) := by have h := (hs4 0 (by omega)) 0 (.float .f64 (fA (⟨0, 1, R.r2, R.r3, R.r4, R.r5, R.r6, R.r7, 0, 0, infW, 0, -1, 0⟩ : RD) a b).sm) (by rw [f0]; rfl); simpa using h
        have p1 : u6.cell? ⟨gs, 1, none⟩ = some (.float .f64 (fA (⟨0, 1, R.r2, R.r3, R.r4, R.r5, R.r6, R.r7, 0, 0, infW, 0, -1, 0⟩ : RD) a b).si) := by have h := (hs4 0 (by omega)) 1 (.float .f64 (fA (⟨0, 1, R.r2, R.r3, R.r4, R.r5, R.r6, R.r7, 0, 0, infW, 0, -1, 0⟩ : RD) a b).si) (by rw [f0]; rfl); simpa using h
        have p2 : u6.cell? ⟨gs, 2, none⟩ = some (.float .f64 (fA (⟨0, 1, R.r2, R.r3, R.r4, R.r5, R.r6, R.r7, 0, 0, infW, 0, -1, 0⟩ : RD) a b).sx) := by have h := (hs4 0 (by omega)) 2 (.float .f64 (fA (⟨0, 1, R.r2, R.r3, R.r4, R.r5, R.r6, R.r7, 0, 0, infW, 0, -1, 0⟩ : RD) a b).sx) (by rw [f0]; rfl); simpa using h
        have p3 : u6.cell? ⟨gs, 3, none⟩ = some (.float .f64 (fA (⟨0, 1, R.r2, R.r3, R.r4, R.r5, R.r6, R.r7, 0, 0, infW, 0, -1, 0⟩ : RD) a b).sy) := by have h := (hs4 0 (by omega)) 3 (.float .f64 (fA (⟨0, 1, R.r2, R.r3, R.r4, R.r5, R.r6, R.r7, 0, 0, infW, 0, -1, 0⟩ : RD) a b).sy) (by rw [f0]; rfl); simpa using h
        have p4 : u6.cell? ⟨gs, 4, none⟩ = some (.float .f64 (fA (⟨0, 1, R.r2, R.r3, R.r4, R.r5, R.r6, R.r7, 0, 0, infW, 0, -1, 0⟩ : RD) a b).ss) := by have h := (hs4 0 (by omega)) 4 (.float .f64 (fA (⟨0, 1, R.r2, R.r3, R.r4, R.r5, R.r6, R.r7, 0, 0, infW, 0, -1, 0⟩ : RD) a b).ss) (by rw [f0]; rfl); simpa using h
        have q0 : u6.cell? ⟨gs, 5, none⟩ = some (.float .f64 (fB (⟨0, 1, R.r2, R.r3, R.r4, R.r5, R.r6, R.r7, 0, 0, infW, 0, -1, 0⟩ : RD) a b).sm) := by have h := (hs4 1 (by omega)) 0 (.float .f64 (fB (⟨0, 1, R.r2, R.r3, R.r4, R.r5, R.r6, R.r7, 0, 0, infW, 0, -1, 0⟩ : RD) a b).sm) (by rw [f1]; rfl); simpa using h
        have q1 : u6.cell? ⟨gs, 6, none⟩ = some (.float .f64 (fB (⟨0, 1, R.r2, R.r3, R.r4, R.r5, R.r6, R.r7, 0, 0, infW, 0, -1, 0⟩ : RD) a b).si) := by have h := (hs4 1 (by omega)) 1 (.float .f64 (fB (⟨0, 1, R.r2, R.r3, R.r4, R.r5, R.r6, R.r7, 0, 0, infW, 0, -1, 0⟩ : RD) a b).si) (by rw [f1]; rfl); simpa using h
        have q2 : u6.cell? ⟨gs, 7, none⟩ = some (.float .f64 (fB (⟨0, 1, R.r2, R.r3, R.r4, R.r5, R.r6, R.r7, 0, 0, infW, 0, -1, 0⟩ : RD) a b).sx) := by have h := (hs4 1 (by omega)) 2 (.float .f64 (fB (⟨0, 1, R.r2, R.r3, R.r4, R.r5, R.r6, R.r7, 0, 0, infW, 0, -1, 0⟩ : RD) a b).sx) (by rw [f1]; rfl); simpa using h
        have q3 : u6.cell? ⟨gs, 8, none⟩ = some (.float .f64 (fB (⟨0, 1, R.r2, R.r3, R.r4, R.r5, R.r6, R.r7, 0, 0, infW, 0, -1, 0⟩ : RD) a b).sy) := by have h := (hs4 1 (by omega)) 3 (.float .f64 (fB (⟨0, 1, R.r2, R.r3, R.r4, R.r5, R.r6, R.r7, 0, 0, infW, 0, -1, 0⟩ : RD) a b).sy) (by rw [f1]; rfl); simpa using h
        have q4 : u6.cell? ⟨gs, 9, none⟩ = some (.float .f64 (fB (⟨0, 1, R.r2, R.r3, R.r4, R.r5, R.r6, R.r7, 0, 0, infW, 0, -1, 0⟩ : RD) a b).ss) := by have h := (hs4 1 (by omega)) 4 (.float .f64 (fB (⟨0, 1, R.r2, R.r3, R.r4, R.r5, R.r6, R.r7, 0, 0, infW, 0, -1, 0⟩ : RD) a b).ss) (by rw [f1]; rfl); simpa using h
        have BN := belBy_some u6
        replace z0 := belBy_cell (W := u6) z0
        replace z1 := belBy_cell (W := u6) z1
        replace z2 := belBy_cell (W := u6) z2
        replace z3 := belBy_cell (W := u6) z3
        replace z4 := belBy_cell (W := u6) z4
        replace z5 := belBy_cell (W := u6) z5
        replace z6 := belBy_cell (W := u6) z6
        replace z7 := belBy_cell (W := u6) z7
        replace z8 := belBy_cell (W := u6) z8
        replace z9 := belBy_cell (W := u6) z9
        replace z10 := belBy_cell (W := u6) z10
        replace z11 := belBy_cell (W := u6) z11
        replace z12 := belBy_cell (W := u6) z12
        replace z13 := belBy_cell (W := u6) z13
        replace a0 := belBy_cell (W := u6) a0
        replace a1 := belBy_cell (W := u6) a1
        replace a2 := belBy_cell (W := u6) a2
        replace a3 := belBy_cell (W := u6) a3
        replace a4 := belBy_cell (W := u6) a4
        replace b0 := belBy_cell (W := u6) b0
        replace b1 := belBy_cell (W := u6) b1
        replace b2 := belBy_cell (W := u6) b2
        replace b3 := belBy_cell (W := u6) b3
        replace b4 := belBy_cell (W := u6) b4
        replace p0 := belBy_cell (W := u6) p0
        replace p1 := belBy_cell (W := u6) p1
        replace p2 := belBy_cell (W := u6) p2
        replace p3 := belBy_cell (W := u6) p3
        replace p4 := belBy_cell (W := u6) p4
        replace q0 := belBy_cell (W := u6) q0
        replace q1 := belBy_cell (W := u6) q1
        replace q2 := belBy_cell (W := u6) q2
        replace q3 := belBy_cell (W := u6) q3
        replace q4 := belBy_cell (W := u6) q4
        rcases (show ltK .f64 0 (wtF (⟨0, 1, R.r2, R.r3, R.r4, R.r5, R.r6, R.r7, 0, 0, infW, 0, -1, 0⟩ : RD) a b) = false ∧ leK .f64 xl (bnR (⟨0, 1, R.r2, R.r3, R.r4, R.r5, R.r6, R.r7, 0, 0, infW, 0, -1, 0⟩ : RD) a b) = false ∨ leK .f64 xl (bnR (⟨0, 1, R.r2, R.r3, R.r4, R.r5, R.r6, R.r7, 0, 0, infW, 0, -1, 0⟩ : RD) a b) = true by cases hw : ltK .f64 0 (wtF (⟨0, 1, R.r2, R.r3, R.r4, R.r5, R.r6, R.r7, 0, 0, infW, 0, -1, 0⟩ : RD) a b) with | true => exact .inr (hl hw) | false => cases leK .f64 xl (bnR (⟨0, 1, R.r2, R.r3, R.r4, R.r5, R.r6, R.r7, 0, 0, infW, 0, -1, 0⟩ : RD) a b) <;> simp) with ⟨hw, hx⟩ | hx
        · refine wp_region_quiet_bel (by kernel_rfl) (by kernel_rfl) ?_
          repeat (go_big_quiet_step (first | (go_at_call 43; first | with_reducible exact calls_bel (hm1 _) | with_reducible exact calls_bel (hm2 _) | exact calls_bel (hm1 _) | exact calls_bel (hm2 _))))
          refine wpQuiet_nil ?_
          rintro _ ⟨pW, rfl⟩
          go_wp2
          go_ret
          exact ⟨rfl, bl_trans B4 pW.h⟩
        · refine wp_region_quiet_bel (by kernel_rfl) (by kernel_rfl) ?_
          repeat (go_big_quiet_step (first | (go_at_call 43; first | with_reducible exact calls_bel (hm1 _) | with_reducible exact calls_bel (hm2 _) | exact calls_bel (hm1 _) | exact calls_bel (hm2 _))))
          refine wpQuiet_nil ?_
          rintro _ ⟨pW, rfl⟩
          go_wp2
          go_ret
          exact ⟨rfl, bl_trans B4 pW.h⟩
  all_goals
    repeat (first | go_skip | (go_at_call 27; refine (awake21 _).mono ?_; rintro e u0 ⟨rfl, b0⟩; replace hR := rng_bel hR b0; replace hA := rng_bel hA b0; replace hBb := rng_bel hBb b0; replace hRt := bel_there hRt b0; replace B0 := bl_trans B0 b0; clear b0) | (go_at_call 40; refine (inf21 _).mono ?_; rintro e v0 ⟨rfl, hv0⟩; rw [hv0]; clear hv0) | ((with_reducible show Oper.wp _ { dst := _, op := Op.store 3 _ _, type := _, pos := _, after := _, guard := _ } _ _ _ _); refine wp_put_i (P := Try.prog) 3 _ _ rfl (w.heap.size) 0 14 0 rfl rfl hRt (by decide) (by kernel_rfl) (fun V => Bel w V ∧ V.rangeAt (w.heap.size) 0 [.int .i64 0, .int .i64 R.rb, .float .f64 R.r2, .float .f64 R.r3, .float .f64 R.r4, .float .f64 R.r5, .float .f64 R.r6, .float .f64 R.r7, .float .f64 R.r8, .float .f64 R.r9, .float .f64 R.r10, .float .f64 R.r11, .int .i64 R.ro, .float .f64 R.r13] ∧ V.there (w.heap.size) 0 14 ∧ V.rangeAt (w.heap.size + 1) 0 [.float .f64 a.sm, .float .f64 a.si, .float .f64 a.sx, .float .f64 a.sy, .float .f64 a.ss] ∧ V.rangeAt (w.heap.size + 1 + 1) 0 [.float .f64 b.sm, .float .f64 b.si, .float .f64 b.sx, .float .f64 b.sy, .float .f64 b.ss]) ⟨bl_set B0 (Nat.le_refl _), rng_put hR, thr_put hRt, rng_set_far hA (by simp), rng_set_far hBb (by simp <;> omega)⟩ ?_; clear hR hRt hA hBb B0; rintro V0 ⟨B0, hR, hRt, hA, hBb⟩; simp only [go_sem]) | ((with_reducible show Oper.wp _ { dst := _, op := Op.store 3 _ _, type := _, pos := _, after := _, guard := _ } _ _ _ _); refine wp_put_i (P := Try.prog) 3 _ _ rfl (w.heap.size) 1 14 1 rfl rfl hRt (by decide) (by kernel_rfl) (fun V => Bel w V ∧ V.rangeAt (w.heap.size) 0 [.int .i64 0, .int .i64 1, .float .f64 R.r2, .float .f64 R.r3, .float .f64 R.r4, .float .f64 R.r5, .float .f64 R.r6, .float .f64 R.r7, .float .f64 R.r8, .float .f64 R.r9, .float .f64 R.r10, .float .f64 R.r11, .int .i64 R.ro, .float .f64 R.r13] ∧ V.there (w.heap.size) 0 14 ∧ V.rangeAt (w.heap.size + 1) 0 [.float .f64 a.sm, .float .f64 a.si, .float .f64 a.sx, .float .f64 a.sy, .float .f64 a.ss] ∧ V.rangeAt (w.heap.size + 1 + 1) 0 [.float .f64 b.sm, .float .f64 b.si, .float .f64 b.sx, .float .f64 b.sy, .float .f64 b.ss]) ⟨bl_set B0 (Nat.le_refl _), rng_put hR, thr_put hRt, rng_set_far hA (by simp), rng_set_far hBb (by simp <;> omega)⟩ ?_; clear hR hRt hA hBb B0; rintro V1 ⟨B0, hR, hRt, hA, hBb⟩; simp only [go_sem]) | ((with_reducible show Oper.wp _ { dst := _, op := Op.store 3 _ _, type := _, pos := _, after := _, guard := _ } _ _ _ _); refine wp_put_i (P := Try.prog) 3 _ _ rfl (w.heap.size) 12 14 (-1) rfl rfl hRt (by decide) (by kernel_rfl) (fun V => Bel w V ∧ V.rangeAt (w.heap.size) 0 [.int .i64 0, .int .i64 1, .float .f64 R.r2, .float .f64 R.r3, .float .f64 R.r4, .float .f64 R.r5, .float .f64 R.r6, .float .f64 R.r7, .float .f64 R.r8, .float .f64 R.r9, .float .f64 R.r10, .float .f64 R.r11, .int .i64 (-1), .float .f64 R.r13] ∧ V.there (w.heap.size) 0 14 ∧ V.rangeAt (w.heap.size + 1) 0 [.float .f64 a.sm, .float .f64 a.si, .float .f64 a.sx, .float .f64 a.sy, .float .f64 a.ss] ∧ V.rangeAt (w.heap.size + 1 + 1) 0 [.float .f64 b.sm, .float .f64 b.si, .float .f64 b.sx, .float .f64 b.sy, .float .f64 b.ss]) ⟨bl_set B0 (Nat.le_refl _), rng_put hR, thr_put hRt, rng_set_far hA (by simp), rng_set_far hBb (by simp <;> omega)⟩ ?_; clear hR hRt hA hBb B0; rintro V12 ⟨B0, hR, hRt, hA, hBb⟩; simp only [go_sem]) | ((with_reducible show Oper.wp _ { dst := _, op := Op.store 24 _ _, type := _, pos := _, after := _, guard := _ } _ _ _ _); refine wp_put_f (P := Try.prog) 24 _ _ rfl (w.heap.size) 13 14 0 rfl rfl hRt (by decide) (by kernel_rfl) (fun V => Bel w V ∧ V.rangeAt (w.heap.size) 0 [.int .i64 0, .int .i64 1, .float .f64 R.r2, .float .f64 R.r3, .float .f64 R.r4, .float .f64 R.r5, .float .f64 R.r6, .float .f64 R.r7, .float .f64 R.r8, .float .f64 R.r9, .float .f64 R.r10, .float .f64 R.r11, .int .i64 (-1), .float .f64 0] ∧ V.there (w.heap.size) 0 14 ∧ V.rangeAt (w.heap.size + 1) 0 [.float .f64 a.sm, .float .f64 a.si, .float .f64 a.sx, .float .f64 a.sy, .float .f64 a.ss] ∧ V.rangeAt (w.heap.size + 1 + 1) 0 [.float .f64 b.sm, .float .f64 b.si, .float .f64 b.sx, .float .f64 b.sy, .float .f64 b.ss]) ⟨bl_set B0 (Nat.le_refl _), rng_put hR, thr_put hRt, rng_set_far hA (by simp), rng_set_far hBb (by simp <;> omega)⟩ ?_; clear hR hRt hA hBb B0; rintro V13 ⟨B0, hR, hRt, hA, hBb⟩; simp only [go_sem]) | ((with_reducible show Oper.wp _ { dst := _, op := Op.store 24 _ _, type := _, pos := _, after := _, guard := _ } _ _ _ _); refine wp_put_f (P := Try.prog) 24 _ _ rfl (w.heap.size) 11 14 0 rfl rfl hRt (by decide) (by kernel_rfl) (fun V => Bel w V ∧ V.rangeAt (w.heap.size) 0 [.int .i64 0, .int .i64 1, .float .f64 R.r2, .float .f64 R.r3, .float .f64 R.r4, .float .f64 R.r5, .float .f64 R.r6, .float .f64 R.r7, .float .f64 R.r8, .float .f64 R.r9, .float .f64 R.r10, .float .f64 0, .int .i64 (-1), .float .f64 0] ∧ V.there (w.heap.size) 0 14 ∧ V.rangeAt (w.heap.size + 1) 0 [.float .f64 a.sm, .float .f64 a.si, .float .f64 a.sx, .float .f64 a.sy, .float .f64 a.ss] ∧ V.rangeAt (w.heap.size + 1 + 1) 0 [.float .f64 b.sm, .float .f64 b.si, .float .f64 b.sx, .float .f64 b.sy, .float .f64 b.ss]) ⟨bl_set B0 (Nat.le_refl _), rng_put hR, thr_put hRt, rng_set_far hA (by simp), rng_set_far hBb (by simp <;> omega)⟩ ?_; clear hR hRt hA hBb B0; rintro V11 ⟨B0, hR, hRt, hA, hBb⟩; simp only [go_sem]) | ((with_reducible show Oper.wp _ { dst := _, op := Op.store 24 _ _, type := _, pos := _, after := _, guard := _ } _ _ _ _); refine wp_put_f (P := Try.prog) 24 _ _ rfl (w.heap.size) 8 14 0 rfl rfl hRt (by decide) (by kernel_rfl) (fun V => Bel w V ∧ V.rangeAt (w.heap.size) 0 [.int .i64 0, .int .i64 1, .float .f64 R.r2, .float .f64 R.r3, .float .f64 R.r4, .float .f64 R.r5, .float .f64 R.r6, .float .f64 R.r7, .float .f64 0, .float .f64 R.r9, .float .f64 R.r10, .float .f64 0, .int .i64 (-1), .float .f64 0] ∧ V.there (w.heap.size) 0 14 ∧ V.rangeAt (w.heap.size + 1) 0 [.float .f64 a.sm, .float .f64 a.si, .float .f64 a.sx, .float .f64 a.sy, .float .f64 a.ss] ∧ V.rangeAt (w.heap.size + 1 + 1) 0 [.float .f64 b.sm, .float .f64 b.si, .float .f64 b.sx, .float .f64 b.sy, .float .f64 b.ss]) ⟨bl_set B0 (Nat.le_refl _), rng_put hR, thr_put hRt, rng_set_far hA (by simp), rng_set_far hBb (by simp <;> omega)⟩ ?_; clear hR hRt hA hBb B0; rintro V8 ⟨B0, hR, hRt, hA, hBb⟩; simp only [go_sem]) | ((with_reducible show Oper.wp _ { dst := _, op := Op.store 24 _ _, type := _, pos := _, after := _, guard := _ } _ _ _ _); refine wp_put_f (P := Try.prog) 24 _ _ rfl (w.heap.size) 9 14 0 rfl rfl hRt (by decide) (by kernel_rfl) (fun V => Bel w V ∧ V.rangeAt (w.heap.size) 0 [.int .i64 0, .int .i64 1, .float .f64 R.r2, .float .f64 R.r3, .float .f64 R.r4, .float .f64 R.r5, .float .f64 R.r6, .float .f64 R.r7, .float .f64 0, .float .f64 0, .float .f64 R.r10, .float .f64 0, .int .i64 (-1), .float .f64 0] ∧ V.there (w.heap.size) 0 14 ∧ V.rangeAt (w.heap.size + 1) 0 [.float .f64 a.sm, .float .f64 a.si, .float .f64 a.sx, .float .f64 a.sy, .float .f64 a.ss] ∧ V.rangeAt (w.heap.size + 1 + 1) 0 [.float .f64 b.sm, .float .f64 b.si, .float .f64 b.sx, .float .f64 b.sy, .float .f64 b.ss]) ⟨bl_set B0 (Nat.le_refl _), rng_put hR, thr_put hRt, rng_set_far hA (by simp), rng_set_far hBb (by simp <;> omega)⟩ ?_; clear hR hRt hA hBb B0; rintro V9 ⟨B0, hR, hRt, hA, hBb⟩; simp only [go_sem]) | ((with_reducible show Oper.wp _ { dst := _, op := Op.store 24 _ _, type := _, pos := _, after := _, guard := _ } _ _ _ _); refine wp_put_f (P := Try.prog) 24 _ _ rfl (w.heap.size) 10 14 infW rfl rfl hRt (by decide) (by kernel_rfl) (fun V => Bel w V ∧ V.rangeAt (w.heap.size) 0 [.int .i64 0, .int .i64 1, .float .f64 R.r2, .float .f64 R.r3, .float .f64 R.r4, .float .f64 R.r5, .float .f64 R.r6, .float .f64 R.r7, .float .f64 0, .float .f64 0, .float .f64 infW, .float .f64 0, .int .i64 (-1), .float .f64 0] ∧ V.there (w.heap.size) 0 14 ∧ V.rangeAt (w.heap.size + 1) 0 [.float .f64 a.sm, .float .f64 a.si, .float .f64 a.sx, .float .f64 a.sy, .float .f64 a.ss] ∧ V.rangeAt (w.heap.size + 1 + 1) 0 [.float .f64 b.sm, .float .f64 b.si, .float .f64 b.sx, .float .f64 b.sy, .float .f64 b.ss]) ⟨bl_set B0 (Nat.le_refl _), rng_put hR, thr_put hRt, rng_set_far hA (by simp), rng_set_far hBb (by simp <;> omega)⟩ ?_; clear hR hRt hA hBb B0; rintro V10 ⟨B0, hR, hRt, hA, hBb⟩; simp only [go_sem]) | ((with_reducible show Oper.wp _ { dst := _, op := Op.load 43 _, type := _, pos := _, after := _, guard := _ } _ _ _ _); refine wp_load_mid (P := Try.prog) 43 _ rfl (w.heap.size) 0 rfl [.int .i64 0, .int .i64 1, .float .f64 R.r2, .float .f64 R.r3, .float .f64 R.r4, .float .f64 R.r5, .float .f64 R.r6, .float .f64 R.r7, .float .f64 0, .float .f64 0, .float .f64 infW, .float .f64 0, .int .i64 (-1), .float .f64 0] _ hR Try.underlying43 rfl (by kernel_rfl) ?_; simp only [go_sem]) | ((with_reducible show wpList _ _ _ ({ dst := _, op := Op.load 45 _, type := _, pos := _, after := _, guard := some _ } :: _) _ _); refine wpList_gload (by kernel_rfl) 45 _ rfl (w.heap.size + 1) 0 rfl [.float .f64 a.sm, .float .f64 a.si, .float .f64 a.sx, .float .f64 a.sy, .float .f64 a.ss] _ hA Try.underlying45 rfl (by kernel_rfl) ?_; simp only [go_sem]) | ((with_reducible show wpList _ _ _ ({ dst := _, op := Op.load 45 _, type := _, pos := _, after := _, guard := some _ } :: _) _ _); refine wpList_gload (by kernel_rfl) 45 _ rfl (w.heap.size + 1 + 1) 0 rfl [.float .f64 b.sm, .float .f64 b.si, .float .f64 b.sx, .float .f64 b.sy, .float .f64 b.ss] _ hBb Try.underlying45 rfl (by kernel_rfl) ?_; simp only [go_sem]) | ((with_reducible show Oper.wp _ { dst := _, op := Op.load 45 _, type := _, pos := _, after := _, guard := _ } _ _ _ _); refine wp_load_mid (P := Try.prog) 45 _ rfl (w.heap.size + 1) 0 rfl [.float .f64 a.sm, .float .f64 a.si, .float .f64 a.sx, .float .f64 a.sy, .float .f64 a.ss] _ (by first | with_reducible exact hA | exact World.rangeAt_alloc hA _) Try.underlying45 rfl (by kernel_rfl) ?_; simp only [go_sem]) | ((with_reducible show Oper.wp _ { dst := _, op := Op.load 45 _, type := _, pos := _, after := _, guard := _ } _ _ _ _); refine wp_load_mid (P := Try.prog) 45 _ rfl (w.heap.size + 1 + 1) 0 rfl [.float .f64 b.sm, .float .f64 b.si, .float .f64 b.sx, .float .f64 b.sy, .float .f64 b.ss] _ (by first | with_reducible exact hBb | exact World.rangeAt_alloc hBb _) Try.underlying45 rfl (by kernel_rfl) ?_; simp only [go_sem]) | (go_at_call 41; (with_reducible refine (mildRow_w (⟨0, 1, R.r2, R.r3, R.r4, R.r5, R.r6, R.r7, 0, 0, infW, 0, -1, 0⟩ : RD) _ oT).mono ?_); rintro e u1 ⟨m1, hm1, rfl, b1⟩; replace hR := rng_bel hR b1; replace hA := rng_bel hA b1; replace hBb := rng_bel hBb b1; replace hRt := bel_there hRt b1; replace B0 := bl_trans B0 b1; clear b1; rcases (show m1 = false ∨ (m1 = true ∧ Mk 1) by cases m1 <;> simp [Mk]) with rfl | ⟨rfl, mk1⟩; rotate_left) | (go_at_call 42; (with_reducible refine (mildStill_w a _ oa).mono ?_); rintro e u2a ⟨ma, hma, rfl, b2⟩; replace hR := rng_bel hR b2; replace hA := rng_bel hA b2; replace hBb := rng_bel hBb b2; replace hRt := bel_there hRt b2; replace B0 := bl_trans B0 b2; clear b2; rcases (show ma = false ∨ (ma = true ∧ Mk 1) by cases ma <;> simp [Mk]) with rfl | ⟨rfl, mka⟩; rotate_left) | (go_at_call 42; (with_reducible refine (mildStill_w b _ ob).mono ?_); rintro e u2b ⟨mb, hmb, rfl, b2⟩; replace hR := rng_bel hR b2; replace hA := rng_bel hA b2; replace hBb := rng_bel hBb b2; replace hRt := bel_there hRt b2; replace B0 := bl_trans B0 b2; clear b2; rcases (show mb = false ∨ (mb = true ∧ Mk 1) by cases mb <;> simp [Mk]) with rfl | ⟨rfl, mkb⟩; rotate_left) | go_values | go_skip | go_guarded | go_step | go_upon | go_back | dsimp only)
    go_ret
    exact ⟨rfl, B0⟩

end Go.Proofs.Ytfohggiehbplkaa
