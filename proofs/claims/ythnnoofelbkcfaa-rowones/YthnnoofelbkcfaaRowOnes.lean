/-
  'tumblelaw08.RowOnes' is true of every row, every two stills and every two numbers; no condition.
-/
import Derived.Test.YthnnoofelbkcfaaRows
import Derived.Test.YthnnoofelbkcfaaWm
import Derived.WalkKit
import Derived.ProofKit
import Derived.OpenShut
import Derived.WalkLawsBesides
import Derived.WalkSpells
import Derived.Lib.SmallJoins
import Derived.Laws.Cover2
import Derived.Laws.AppendOwn
import Derived.Laws.OwnMore
import Derived.Laws.AppendOwnNone
import Derived.Deep.RegionHeld3
import Derived.Deep.RegionWith
import Derived.Deep.SlicePairs
import Derived.Deep.Strs
import Derived.SizedLaws
import Derived.Below
import Derived.ChangeArms
import Derived.OpenShut
import Derived.Laws.IdiomArrays
import Derived.Laws.StructEq
namespace Go.Proofs.Ythnnoofelbkcfaa.rowOnes
open Go.ChangeShapes Go.WideShapes Go.ChangeAt Go.RowKit Go.Joins
set_option linter.unusedVariables false
set_option linter.unusedSimpArgs false

theorem own : ownKnob Try.prog.godebug = none := by kernel_rfl
theorem laidOut : laidOutB Try.prog = true := by kernel_rfl
theorem wf_f64 {x : Nat} (h : (Lit.float .f64 x).wf = true) : okK .f64 x := by
  rw [okK64]; simpa [Lit.wf] using h
section
variable {H : Type} {enc : TypeId × Value → H} {P : Program} {w : World} {base fuel : Nat} {spare : Nat → Bool} {held : Bool} {t : TypeId} {cs : List Value} {x : DataW H × List MemPlace}
theorem trod_fl {k : FloatKind} (ht : P.underlying t = some (.float k)) (h : DataW.trod enc P w base spare held fuel t cs = some x) : ∃ y, cs = [.float k y] ∧ (Lit.float k y).wf = true := by
  cases fuel with
  | zero => simp [DataW.trod] at h
  | succ n =>
    unfold DataW.trod at h
    rw [ht] at h
    split at h <;> simp_all
theorem trod_bo (ht : P.underlying t = some .bool) (h : DataW.trod enc P w base spare held fuel t cs = some x) : ∃ y, cs = [.bool y] := by
  cases fuel with
  | zero => simp [DataW.trod] at h
  | succ n =>
    unfold DataW.trod at h
    rw [ht] at h
    split at h <;> simp_all
theorem trod_in {k : IntKind} (ht : P.underlying t = some (.int k)) (h : DataW.trod enc P w base spare held fuel t cs = some x) : ∃ n, cs = [.int k n] ∧ (Lit.int k n).wf = true := by
  cases fuel with
  | zero => simp [DataW.trod] at h
  | succ n =>
    unfold DataW.trod at h
    rw [ht] at h
    split at h <;> simp_all
end
theorem cellsF : Try.prog.cellsOf 22 = 1 := by kernel_rfl
theorem cellsV : Try.prog.cellsOf 24 = 2 := by kernel_rfl
theorem cellsI : Try.prog.cellsOf 3 = 1 := by kernel_rfl
theorem cellsR : Try.prog.cellsOf 26 = 14 := by kernel_rfl
theorem list14 {α : Type} {l : List α} (h : l.length = 14) : ∃ c0 c1 c2 c3 c4 c5 c6 c7 c8 c9 c10 c11 c12 c13, l = [c0, c1, c2, c3, c4, c5, c6, c7, c8, c9, c10, c11, c12, c13] := by
  obtain _ | ⟨c0, l⟩ := l
  · simp at h
  obtain _ | ⟨c1, l⟩ := l
  · simp at h
  obtain _ | ⟨c2, l⟩ := l
  · simp at h
  obtain _ | ⟨c3, l⟩ := l
  · simp at h
  obtain _ | ⟨c4, l⟩ := l
  · simp at h
  obtain _ | ⟨c5, l⟩ := l
  · simp at h
  obtain _ | ⟨c6, l⟩ := l
  · simp at h
  obtain _ | ⟨c7, l⟩ := l
  · simp at h
  obtain _ | ⟨c8, l⟩ := l
  · simp at h
  obtain _ | ⟨c9, l⟩ := l
  · simp at h
  obtain _ | ⟨c10, l⟩ := l
  · simp at h
  obtain _ | ⟨c11, l⟩ := l
  · simp at h
  obtain _ | ⟨c12, l⟩ := l
  · simp at h
  obtain _ | ⟨c13, l⟩ := l
  · simp at h
  obtain _ | ⟨c, l⟩ := l
  · exact ⟨c0, c1, c2, c3, c4, c5, c6, c7, c8, c9, c10, c11, c12, c13, rfl⟩
  · simp at h
theorem list12 {α : Type} {l : List α} (h : l.length = 12) : ∃ c0 c1 c2 c3 c4 c5 c6 c7 c8 c9 c10 c11, l = [c0, c1, c2, c3, c4, c5, c6, c7, c8, c9, c10, c11] := by
  obtain _ | ⟨c0, l⟩ := l
  · simp at h
  obtain _ | ⟨c1, l⟩ := l
  · simp at h
  obtain _ | ⟨c2, l⟩ := l
  · simp at h
  obtain _ | ⟨c3, l⟩ := l
  · simp at h
  obtain _ | ⟨c4, l⟩ := l
  · simp at h
  obtain _ | ⟨c5, l⟩ := l
  · simp at h
  obtain _ | ⟨c6, l⟩ := l
  · simp at h
  obtain _ | ⟨c7, l⟩ := l
  · simp at h
  obtain _ | ⟨c8, l⟩ := l
  · simp at h
  obtain _ | ⟨c9, l⟩ := l
  · simp at h
  obtain _ | ⟨c10, l⟩ := l
  · simp at h
  obtain _ | ⟨c11, l⟩ := l
  · simp at h
  obtain _ | ⟨c, l⟩ := l
  · exact ⟨c0, c1, c2, c3, c4, c5, c6, c7, c8, c9, c10, c11, rfl⟩
  · simp at h
set_option maxRecDepth 100000 in
set_option maxHeartbeats 2000000 in
theorem open_row {H : Type} {enc : TypeId × Value → H} {w : World} {base fuel : Nat} {spare : Nat → Bool} {held : Bool} {l : List Value} {x : DataW H × List MemPlace} (hl : l.length = 14) (h : DataW.trod enc Try.prog w base spare held fuel 26 l = some x) :
    ∃ (ra : Int) (rb : Int) (r2 : Nat) (r3 : Nat) (r4 : Nat) (r5 : Nat) (r6 : Nat) (r7 : Nat) (r8 : Nat) (r9 : Nat) (r10 : Nat) (r11 : Nat) (ro : Int) (r13 : Nat), l = [.int .i64 ra, .int .i64 rb, .float .f64 r2, .float .f64 r3, .float .f64 r4, .float .f64 r5, .float .f64 r6, .float .f64 r7, .float .f64 r8, .float .f64 r9, .float .f64 r10, .float .f64 r11, .int .i64 ro, .float .f64 r13] ∧ okK .f64 r2 ∧ okK .f64 r3 ∧ okK .f64 r4 ∧ okK .f64 r5 ∧ okK .f64 r6 ∧ okK .f64 r7 ∧ okK .f64 r8 ∧ okK .f64 r9 ∧ okK .f64 r10 ∧ okK .f64 r11 ∧ okK .f64 r13 := by
  obtain ⟨c0, c1, c2, c3, c4, c5, c6, c7, c8, c9, c10, c11, c12, c13, rfl⟩ := list14 hl
  obtain ⟨xs, n', _, _, _, hlx, hfd⟩ := DataW.trod_struct Try.underlying26 h
  obtain ⟨y0, y1, y2, y3, y4, y5, y6, y7, y8, y9, y10, y11, rfl⟩ := list12 hlx
  have g0 := hfd 0 _ rfl
  simp [cellsI] at g0
  obtain ⟨ra, e0, _⟩ := trod_in Try.underlying3 g0
  have g1 := hfd 1 _ rfl
  simp [cellsI] at g1
  obtain ⟨rb, e1, _⟩ := trod_in Try.underlying3 g1
  have g2 := hfd 2 _ rfl
  simp [cellsV] at g2
  obtain ⟨_, _, _, _, _, s2, s3⟩ := trod_struct2 Try.underlying24 g2
  simp [cellsF] at s2 s3
  obtain ⟨r2, e2, w2⟩ := trod_fl Try.underlying22 s2
  obtain ⟨r3, e3, w3⟩ := trod_fl Try.underlying22 s3
  have g3 := hfd 3 _ rfl
  simp [cellsV] at g3
  obtain ⟨_, _, _, _, _, s4, s5⟩ := trod_struct2 Try.underlying24 g3
  simp [cellsF] at s4 s5
  obtain ⟨r4, e4, w4⟩ := trod_fl Try.underlying22 s4
  obtain ⟨r5, e5, w5⟩ := trod_fl Try.underlying22 s5
  have g4 := hfd 4 _ rfl
  simp [cellsF] at g4
  obtain ⟨r6, e6, w6⟩ := trod_fl Try.underlying22 g4
  have g5 := hfd 5 _ rfl
  simp [cellsF] at g5
  obtain ⟨r7, e7, w7⟩ := trod_fl Try.underlying22 g5
  have g6 := hfd 6 _ rfl
  simp [cellsF] at g6
  obtain ⟨r8, e8, w8⟩ := trod_fl Try.underlying22 g6
  have g7 := hfd 7 _ rfl
  simp [cellsF] at g7
  obtain ⟨r9, e9, w9⟩ := trod_fl Try.underlying22 g7
  have g8 := hfd 8 _ rfl
  simp [cellsF] at g8
  obtain ⟨r10, e10, w10⟩ := trod_fl Try.underlying22 g8
  have g9 := hfd 9 _ rfl
  simp [cellsF] at g9
  obtain ⟨r11, e11, w11⟩ := trod_fl Try.underlying22 g9
  have g10 := hfd 10 _ rfl
  simp [cellsI] at g10
  obtain ⟨ro, e12, _⟩ := trod_in Try.underlying3 g10
  have g11 := hfd 11 _ rfl
  simp [cellsF] at g11
  obtain ⟨r13, e13, w13⟩ := trod_fl Try.underlying22 g11
  simp at e0 e1 e2 e3 e4 e5 e6 e7 e8 e9 e10 e11 e12 e13
  subst e0 e1 e2 e3 e4 e5 e6 e7 e8 e9 e10 e11 e12 e13
  exact ⟨_, _, _, _, _, _, _, _, _, _, _, _, _, _, rfl, wf_f64 w2, wf_f64 w3, wf_f64 w4, wf_f64 w5, wf_f64 w6, wf_f64 w7, wf_f64 w8, wf_f64 w9, wf_f64 w10, wf_f64 w11, wf_f64 w13⟩
theorem cellsS : Try.prog.cellsOf 28 = 5 := by kernel_rfl
theorem list5 {α : Type} {l : List α} (h : l.length = 5) : ∃ c0 c1 c2 c3 c4, l = [c0, c1, c2, c3, c4] := by
  obtain _ | ⟨c0, l⟩ := l
  · simp at h
  obtain _ | ⟨c1, l⟩ := l
  · simp at h
  obtain _ | ⟨c2, l⟩ := l
  · simp at h
  obtain _ | ⟨c3, l⟩ := l
  · simp at h
  obtain _ | ⟨c4, l⟩ := l
  · simp at h
  obtain _ | ⟨c, l⟩ := l
  · exact ⟨c0, c1, c2, c3, c4, rfl⟩
  · simp at h
theorem list4 {α : Type} {l : List α} (h : l.length = 4) : ∃ c0 c1 c2 c3, l = [c0, c1, c2, c3] := by
  obtain _ | ⟨c0, l⟩ := l
  · simp at h
  obtain _ | ⟨c1, l⟩ := l
  · simp at h
  obtain _ | ⟨c2, l⟩ := l
  · simp at h
  obtain _ | ⟨c3, l⟩ := l
  · simp at h
  obtain _ | ⟨c, l⟩ := l
  · exact ⟨c0, c1, c2, c3, rfl⟩
  · simp at h
set_option maxRecDepth 100000 in
set_option maxHeartbeats 2000000 in
theorem open_still {H : Type} {enc : TypeId × Value → H} {w : World} {base fuel : Nat} {spare : Nat → Bool} {held : Bool} {l : List Value} {x : DataW H × List MemPlace} (hl : l.length = 5) (h : DataW.trod enc Try.prog w base spare held fuel 28 l = some x) :
    ∃ (sm : Nat) (si : Nat) (sx : Nat) (sy : Nat) (ss : Nat), l = [.float .f64 sm, .float .f64 si, .float .f64 sx, .float .f64 sy, .float .f64 ss] ∧ okK .f64 sm ∧ okK .f64 si ∧ okK .f64 sx ∧ okK .f64 sy ∧ okK .f64 ss := by
  obtain ⟨c0, c1, c2, c3, c4, rfl⟩ := list5 hl
  obtain ⟨xs, n', _, _, _, hlx, hfd⟩ := DataW.trod_struct Try.underlying28 h
  obtain ⟨y0, y1, y2, y3, rfl⟩ := list4 hlx
  have g0 := hfd 0 _ rfl
  simp [cellsF] at g0
  obtain ⟨sm, e0, w0⟩ := trod_fl Try.underlying22 g0
  have g1 := hfd 1 _ rfl
  simp [cellsF] at g1
  obtain ⟨si, e1, w1⟩ := trod_fl Try.underlying22 g1
  have g2 := hfd 2 _ rfl
  simp [cellsV] at g2
  obtain ⟨_, _, _, _, _, s2, s3⟩ := trod_struct2 Try.underlying24 g2
  simp [cellsF] at s2 s3
  obtain ⟨sx, e2, w2⟩ := trod_fl Try.underlying22 s2
  obtain ⟨sy, e3, w3⟩ := trod_fl Try.underlying22 s3
  have g3 := hfd 3 _ rfl
  simp [cellsF] at g3
  obtain ⟨ss, e4, w4⟩ := trod_fl Try.underlying22 g3
  simp at e0 e1 e2 e3 e4
  subst e0 e1 e2 e3 e4
  exact ⟨_, _, _, _, _, rfl, wf_f64 w0, wf_f64 w1, wf_f64 w2, wf_f64 w3, wf_f64 w4⟩

theorem quiet_load20 {P : Program} {C : World → Prop} {o : Oper} {a : Act} {K : Act → Prop} (ty : TypeId) (x : Operand) (ho : o.op = .load ty x) (u v : Value) (hx : a.eval x = u) (h : ∀ w, C w → (Instr.loadAt ty u).run P w = .ok v w) (hk : K (a.put o.dst v)) : o.quiet P a C K :=
  ⟨v, fun w hw => by unfold Oper.quietAt execOp; simp only [ho, hx, Sem.run_bind, h w hw, Result.andThen_ok, Sem.run_pure]; exact ⟨rfl, rfl⟩, hk⟩
theorem cd_any (R : RD) (n m : Int) (w : World) : Calls Try.prog 21 #[.agg #[.int .i64 R.ra, .int .i64 R.rb, .float .f64 R.r2, .float .f64 R.r3, .float .f64 R.r4, .float .f64 R.r5, .float .f64 R.r6, .float .f64 R.r7, .float .f64 R.r8, .float .f64 R.r9, .float .f64 R.r10, .float .f64 R.r11, .int .i64 R.ro, .float .f64 R.r13], .int .i64 n, .int .i64 m] w fun e w' => e = .returned (.int .i64 (cdF R n m)) ∧ Bel w w' := check_w R n m w
theorem rcd_any (R : RD) (n m : Int) (w : World) : Calls Try.prog 22 #[.agg #[.int .i64 R.ra, .int .i64 R.rb, .float .f64 R.r2, .float .f64 R.r3, .float .f64 R.r4, .float .f64 R.r5, .float .f64 R.r6, .float .f64 R.r7, .float .f64 R.r8, .float .f64 R.r9, .float .f64 R.r10, .float .f64 R.r11, .int .i64 R.ro, .float .f64 R.r13], .int .i64 n, .int .i64 m] w fun e w' => e = .returned (.int .i64 (cdF R n m)) ∧ Bel w w' := rcheck_w R n m w
set_option maxRecDepth 100000 in
set_option maxHeartbeats 8000000 in
theorem walk_R (R : RD) (a b : SD) (n m : Int) (w : World) (oR : rok R) (oa : sok a) (ob : sok b) : Calls Try.prog 3 #[.agg #[.int .i64 R.ra, .int .i64 R.rb, .float .f64 R.r2, .float .f64 R.r3, .float .f64 R.r4, .float .f64 R.r5, .float .f64 R.r6, .float .f64 R.r7, .float .f64 R.r8, .float .f64 R.r9, .float .f64 R.r10, .float .f64 R.r11, .int .i64 R.ro, .float .f64 R.r13], .agg #[.float .f64 a.sm, .float .f64 a.si, .float .f64 a.sx, .float .f64 a.sy, .float .f64 a.ss], .agg #[.float .f64 b.sm, .float .f64 b.si, .float .f64 b.sx, .float .f64 b.sy, .float .f64 b.ss], .int .i64 n, .int .i64 m] w fun e w' => e = .returned (.bool true) ∧ Below w.heap.size w w' := by
  obtain ⟨hR, hRt, hA, hAt, hBb, hBbt, B0, hz0⟩ := frm0 R a b w
  have BB := B0
  clear hRt hAt hBbt B0 hz0
  go_enter Try.func3, Try.ntmps3
  repeat (first | (with_reducible show Oper.wp _ _ _ _ _ _; refine wp_load_mid (P := Try.prog) 26 _ rfl (w.heap.size) 0 rfl [.int .i64 R.ra, .int .i64 R.rb, .float .f64 R.r2, .float .f64 R.r3, .float .f64 R.r4, .float .f64 R.r5, .float .f64 R.r6, .float .f64 R.r7, .float .f64 R.r8, .float .f64 R.r9, .float .f64 R.r10, .float .f64 R.r11, .int .i64 R.ro, .float .f64 R.r13] _ (by with_reducible assumption) Try.underlying26 rfl (by kernel_rfl) ?_; simp only [go_sem]) | (with_reducible show Oper.wp _ _ _ _ _ _; refine wp_load_mid (P := Try.prog) 28 _ rfl (w.heap.size + 1) 0 rfl [.float .f64 a.sm, .float .f64 a.si, .float .f64 a.sx, .float .f64 a.sy, .float .f64 a.ss] _ (by with_reducible assumption) Try.underlying28 rfl (by kernel_rfl) ?_; simp only [go_sem]) | (with_reducible show Oper.wp _ _ _ _ _ _; refine wp_load_mid (P := Try.prog) 28 _ rfl (w.heap.size + 1 + 1) 0 rfl [.float .f64 b.sm, .float .f64 b.si, .float .f64 b.sx, .float .f64 b.sy, .float .f64 b.ss] _ (by with_reducible assumption) Try.underlying28 rfl (by kernel_rfl) ?_; simp only [go_sem]) | (go_at_call 9; refine (alive20 _).mono ?_; rintro e u0 ⟨rfl, b0⟩; have hRn := rng_bel hR b0; have hAn := rng_bel hA b0; have hBn := rng_bel hBb b0; have BBn := bl_trans BB b0; clear hR hA hBb BB; have hR := hRn; have hA := hAn; have hBb := hBn; have BB := BBn; clear hRn hAn hBn BBn) | (go_at_call 10; (with_reducible refine (spd_any R a b _ oR oa ob).mono ?_); rintro e u1 ⟨s1, hs1, rfl, b1⟩; have hRn := rng_bel hR b1; have hAn := rng_bel hA b1; have hBn := rng_bel hBb b1; have BBn := bl_trans BB b1; clear hR hA hBb BB; have hR := hRn; have hA := hAn; have hBb := hBn; have BB := BBn; clear hRn hAn hBn BBn) | (go_at_call 11; (with_reducible refine (wgt_any R a b _ oR oa ob).mono ?_); rintro e u2 ⟨t1, ht1, rfl, b2⟩; have hRn := rng_bel hR b2; have hAn := rng_bel hA b2; have hBn := rng_bel hBb b2; have BBn := bl_trans BB b2; clear hR hA hBb BB; have hR := hRn; have hA := hAn; have hBb := hBn; have BB := BBn; clear hRn hAn hBn BBn) | (go_at_call 12; (with_reducible refine (wrm_any R a b _ oR oa ob).mono ?_); rintro e u3 ⟨C1, D1, hC1, hD1, rfl, b3⟩; have hRn := rng_bel hR b3; have hAn := rng_bel hA b3; have hBn := rng_bel hBb b3; have BBn := bl_trans BB b3; clear hR hA hBb BB; have hR := hRn; have hA := hAn; have hBb := hBn; have BB := BBn; clear hRn hAn hBn BBn; (have ct0 : ((u3.alloc (.cells #[.float .f64 0, .float .f64 0, .float .f64 0, .float .f64 0, .float .f64 0] 28)).alloc (.cells #[.float .f64 0, .float .f64 0, .float .f64 0, .float .f64 0, .float .f64 0] 28)).there (u3.heap.size) 0 5 := World.there_alloc (there_new u3 [.float .f64 0, .float .f64 0, .float .f64 0, .float .f64 0, .float .f64 0] 28) _); (have ct1 : ((u3.alloc (.cells #[.float .f64 0, .float .f64 0, .float .f64 0, .float .f64 0, .float .f64 0] 28)).alloc (.cells #[.float .f64 0, .float .f64 0, .float .f64 0, .float .f64 0, .float .f64 0] 28)).there (u3.heap.size + 1) 0 5 := by have h := there_new (u3.alloc (.cells #[.float .f64 0, .float .f64 0, .float .f64 0, .float .f64 0, .float .f64 0] 28)) [.float .f64 0, .float .f64 0, .float .f64 0, .float .f64 0, .float .f64 0] 28; rw [World.size_alloc] at h; exact h); have cB : Bel u3 ((u3.alloc (.cells #[.float .f64 0, .float .f64 0, .float .f64 0, .float .f64 0, .float .f64 0] 28)).alloc (.cells #[.float .f64 0, .float .f64 0, .float .f64 0, .float .f64 0, .float .f64 0] 28)) := bl_alloc (bl_alloc (bl_refl _) _ _) _ _) | ((with_reducible show Oper.wp _ { dst := _, op := Op.store 28 _ _, type := _, pos := _, after := _, guard := _ } _ _ _ _); refine wp_store_abs (P := Try.prog) 28 _ _ rfl (u3.heap.size) 0 #[.float .f64 C1.sm, .float .f64 C1.si, .float .f64 C1.sx, .float .f64 C1.sy, .float .f64 C1.ss] rfl rfl ct0 (by kernel_rfl) (by kernel_rfl) (fun V => Bel u3 V ∧ V.rangeAt (u3.heap.size) 0 [.float .f64 C1.sm, .float .f64 C1.si, .float .f64 C1.sx, .float .f64 C1.sy, .float .f64 C1.ss] ∧ V.there (u3.heap.size + 1) 0 5) ⟨bel_setsJ _ _ cB (Nat.le_refl _), World.rangeAt_setCells_same _ _ _ _ ct0, World.there_setCells ct1 _ _ _⟩ ?_; rintro cV1 ⟨cC1, cr0, ct2⟩; simp only [go_sem]) | ((with_reducible show Oper.wp _ { dst := _, op := Op.store 28 _ _, type := _, pos := _, after := _, guard := _ } _ _ _ _); refine wp_store_abs (P := Try.prog) 28 _ _ rfl (u3.heap.size + 1) 0 #[.float .f64 D1.sm, .float .f64 D1.si, .float .f64 D1.sx, .float .f64 D1.sy, .float .f64 D1.ss] rfl rfl ct2 (by kernel_rfl) (by kernel_rfl) (fun V => Bel u3 V ∧ V.rangeAt (u3.heap.size) 0 [.float .f64 C1.sm, .float .f64 C1.si, .float .f64 C1.sx, .float .f64 C1.sy, .float .f64 C1.ss] ∧ V.rangeAt (u3.heap.size + 1) 0 [.float .f64 D1.sm, .float .f64 D1.si, .float .f64 D1.sx, .float .f64 D1.sy, .float .f64 D1.ss]) ⟨bel_setsJ _ _ cC1 (by omega), World.rangeAt_setCells_apart cr0 _ _ _ (.inl (by omega)), World.rangeAt_setCells_same _ _ _ _ ct2⟩ ?_; rintro cV2 ⟨cC2, cR0, cR1⟩; have hRn := rng_bel hR cC2; have hAn := rng_bel hA cC2; have hBn := rng_bel hBb cC2; have BBn := bl_trans BB cC2; clear hR hA hBb BB; have hR := hRn; have hA := hAn; have hBb := hBn; have BB := BBn; clear hRn hAn hBn BBn; clear ct0 ct1 cB cC1 cr0 ct2; simp only [go_sem]) | (go_at_call 13; (with_reducible refine (one_any R a b _ oR oa ob).mono ?_); rintro e u4 ⟨Q1, X1, Y1, hQ1, hX1, hY1, rfl, b4⟩; have hRn := rng_bel hR b4; have hAn := rng_bel hA b4; have hBn := rng_bel hBb b4; have BBn := bl_trans BB b4; clear hR hA hBb BB; have hR := hRn; have hA := hAn; have hBb := hBn; have BB := BBn; clear hRn hAn hBn BBn; replace cR0 := rng_bel cR0 b4; replace cR1 := rng_bel cR1 b4; (have ot0 : (((u4.alloc (.cells #[.int .i64 0, .int .i64 0, .float .f64 0, .float .f64 0, .float .f64 0, .float .f64 0, .float .f64 0, .float .f64 0, .float .f64 0, .float .f64 0, .float .f64 0, .float .f64 0, .int .i64 0, .float .f64 0] 26)).alloc (.cells #[.float .f64 0, .float .f64 0, .float .f64 0, .float .f64 0, .float .f64 0] 28)).alloc (.cells #[.float .f64 0, .float .f64 0, .float .f64 0, .float .f64 0, .float .f64 0] 28)).there (u4.heap.size) 0 14 := World.there_alloc (World.there_alloc (there_new u4 [.int .i64 0, .int .i64 0, .float .f64 0, .float .f64 0, .float .f64 0, .float .f64 0, .float .f64 0, .float .f64 0, .float .f64 0, .float .f64 0, .float .f64 0, .float .f64 0, .int .i64 0, .float .f64 0] 26) _) _); (have ot1 : (((u4.alloc (.cells #[.int .i64 0, .int .i64 0, .float .f64 0, .float .f64 0, .float .f64 0, .float .f64 0, .float .f64 0, .float .f64 0, .float .f64 0, .float .f64 0, .float .f64 0, .float .f64 0, .int .i64 0, .float .f64 0] 26)).alloc (.cells #[.float .f64 0, .float .f64 0, .float .f64 0, .float .f64 0, .float .f64 0] 28)).alloc (.cells #[.float .f64 0, .float .f64 0, .float .f64 0, .float .f64 0, .float .f64 0] 28)).there (u4.heap.size + 1) 0 5 := by have h := there_new (u4.alloc (.cells #[.int .i64 0, .int .i64 0, .float .f64 0, .float .f64 0, .float .f64 0, .float .f64 0, .float .f64 0, .float .f64 0, .float .f64 0, .float .f64 0, .float .f64 0, .float .f64 0, .int .i64 0, .float .f64 0] 26)) [.float .f64 0, .float .f64 0, .float .f64 0, .float .f64 0, .float .f64 0] 28; rw [World.size_alloc] at h; exact World.there_alloc h _); (have ot2 : (((u4.alloc (.cells #[.int .i64 0, .int .i64 0, .float .f64 0, .float .f64 0, .float .f64 0, .float .f64 0, .float .f64 0, .float .f64 0, .float .f64 0, .float .f64 0, .float .f64 0, .float .f64 0, .int .i64 0, .float .f64 0] 26)).alloc (.cells #[.float .f64 0, .float .f64 0, .float .f64 0, .float .f64 0, .float .f64 0] 28)).alloc (.cells #[.float .f64 0, .float .f64 0, .float .f64 0, .float .f64 0, .float .f64 0] 28)).there (u4.heap.size + 1 + 1) 0 5 := by have h := there_new ((u4.alloc (.cells #[.int .i64 0, .int .i64 0, .float .f64 0, .float .f64 0, .float .f64 0, .float .f64 0, .float .f64 0, .float .f64 0, .float .f64 0, .float .f64 0, .float .f64 0, .float .f64 0, .int .i64 0, .float .f64 0] 26)).alloc (.cells #[.float .f64 0, .float .f64 0, .float .f64 0, .float .f64 0, .float .f64 0] 28)) [.float .f64 0, .float .f64 0, .float .f64 0, .float .f64 0, .float .f64 0] 28; rw [World.size_alloc, World.size_alloc] at h; exact h); have oB : Bel u4 (((u4.alloc (.cells #[.int .i64 0, .int .i64 0, .float .f64 0, .float .f64 0, .float .f64 0, .float .f64 0, .float .f64 0, .float .f64 0, .float .f64 0, .float .f64 0, .float .f64 0, .float .f64 0, .int .i64 0, .float .f64 0] 26)).alloc (.cells #[.float .f64 0, .float .f64 0, .float .f64 0, .float .f64 0, .float .f64 0] 28)).alloc (.cells #[.float .f64 0, .float .f64 0, .float .f64 0, .float .f64 0, .float .f64 0] 28)) := bl_alloc (bl_alloc (bl_alloc (bl_refl _) _ _) _ _) _ _) | ((with_reducible show Oper.wp _ { dst := _, op := Op.store 26 _ _, type := _, pos := _, after := _, guard := _ } _ _ _ _); refine wp_store_abs (P := Try.prog) 26 _ _ rfl (u4.heap.size) 0 #[.int .i64 Q1.ra, .int .i64 Q1.rb, .float .f64 Q1.r2, .float .f64 Q1.r3, .float .f64 Q1.r4, .float .f64 Q1.r5, .float .f64 Q1.r6, .float .f64 Q1.r7, .float .f64 Q1.r8, .float .f64 Q1.r9, .float .f64 Q1.r10, .float .f64 Q1.r11, .int .i64 Q1.ro, .float .f64 Q1.r13] rfl rfl ot0 (by kernel_rfl) (by kernel_rfl) (fun V => Bel u4 V ∧ V.rangeAt (u4.heap.size) 0 [.int .i64 Q1.ra, .int .i64 Q1.rb, .float .f64 Q1.r2, .float .f64 Q1.r3, .float .f64 Q1.r4, .float .f64 Q1.r5, .float .f64 Q1.r6, .float .f64 Q1.r7, .float .f64 Q1.r8, .float .f64 Q1.r9, .float .f64 Q1.r10, .float .f64 Q1.r11, .int .i64 Q1.ro, .float .f64 Q1.r13] ∧ V.there (u4.heap.size + 1) 0 5 ∧ V.there (u4.heap.size + 1 + 1) 0 5) ⟨bel_setsJ _ _ oB (Nat.le_refl _), World.rangeAt_setCells_same _ _ _ _ ot0, World.there_setCells ot1 _ _ _, World.there_setCells ot2 _ _ _⟩ ?_; rintro oV1 ⟨oC1, or0, ot3, ot4⟩; simp only [go_sem]) | ((with_reducible show Oper.wp _ { dst := _, op := Op.store 28 _ _, type := _, pos := _, after := _, guard := _ } _ _ _ _); refine wp_store_abs (P := Try.prog) 28 _ _ rfl (u4.heap.size + 1) 0 #[.float .f64 X1.sm, .float .f64 X1.si, .float .f64 X1.sx, .float .f64 X1.sy, .float .f64 X1.ss] rfl rfl ot3 (by kernel_rfl) (by kernel_rfl) (fun V => Bel u4 V ∧ V.rangeAt (u4.heap.size) 0 [.int .i64 Q1.ra, .int .i64 Q1.rb, .float .f64 Q1.r2, .float .f64 Q1.r3, .float .f64 Q1.r4, .float .f64 Q1.r5, .float .f64 Q1.r6, .float .f64 Q1.r7, .float .f64 Q1.r8, .float .f64 Q1.r9, .float .f64 Q1.r10, .float .f64 Q1.r11, .int .i64 Q1.ro, .float .f64 Q1.r13] ∧ V.rangeAt (u4.heap.size + 1) 0 [.float .f64 X1.sm, .float .f64 X1.si, .float .f64 X1.sx, .float .f64 X1.sy, .float .f64 X1.ss] ∧ V.there (u4.heap.size + 1 + 1) 0 5) ⟨bel_setsJ _ _ oC1 (by omega), World.rangeAt_setCells_apart or0 _ _ _ (.inl (by omega)), World.rangeAt_setCells_same _ _ _ _ ot3, World.there_setCells ot4 _ _ _⟩ ?_; rintro oV2 ⟨oC2, or1, or2, ot5⟩; simp only [go_sem]) | ((with_reducible show Oper.wp _ { dst := _, op := Op.store 28 _ _, type := _, pos := _, after := _, guard := _ } _ _ _ _); refine wp_store_abs (P := Try.prog) 28 _ _ rfl (u4.heap.size + 1 + 1) 0 #[.float .f64 Y1.sm, .float .f64 Y1.si, .float .f64 Y1.sx, .float .f64 Y1.sy, .float .f64 Y1.ss] rfl rfl ot5 (by kernel_rfl) (by kernel_rfl) (fun V => Bel u4 V ∧ V.rangeAt (u4.heap.size) 0 [.int .i64 Q1.ra, .int .i64 Q1.rb, .float .f64 Q1.r2, .float .f64 Q1.r3, .float .f64 Q1.r4, .float .f64 Q1.r5, .float .f64 Q1.r6, .float .f64 Q1.r7, .float .f64 Q1.r8, .float .f64 Q1.r9, .float .f64 Q1.r10, .float .f64 Q1.r11, .int .i64 Q1.ro, .float .f64 Q1.r13] ∧ V.rangeAt (u4.heap.size + 1) 0 [.float .f64 X1.sm, .float .f64 X1.si, .float .f64 X1.sx, .float .f64 X1.sy, .float .f64 X1.ss] ∧ V.rangeAt (u4.heap.size + 1 + 1) 0 [.float .f64 Y1.sm, .float .f64 Y1.si, .float .f64 Y1.sx, .float .f64 Y1.sy, .float .f64 Y1.ss]) ⟨bel_setsJ _ _ oC2 (by omega), World.rangeAt_setCells_apart or1 _ _ _ (.inl (by omega)), World.rangeAt_setCells_apart or2 _ _ _ (.inl (by omega)), World.rangeAt_setCells_same _ _ _ _ ot5⟩ ?_; rintro oV3 ⟨oC3, oR0, oR1, oR2⟩; have hRn := rng_bel hR oC3; have hAn := rng_bel hA oC3; have hBn := rng_bel hBb oC3; have BBn := bl_trans BB oC3; clear hR hA hBb BB; have hR := hRn; have hA := hAn; have hBb := hBn; have BB := BBn; clear hRn hAn hBn BBn; replace cR0 := rng_bel cR0 oC3; replace cR1 := rng_bel cR1 oC3; clear ot0 ot1 ot2 oB oC1 or0 ot3 ot4 oC2 or1 or2 ot5; simp only [go_sem]) | (go_at_call 14; (with_reducible refine (rspd_any R a b _ oR oa ob).mono ?_); rintro e v1 ⟨s2, hs2, rfl, d1⟩; have hRn := rng_bel hR d1; have hAn := rng_bel hA d1; have hBn := rng_bel hBb d1; have BBn := bl_trans BB d1; clear hR hA hBb BB; have hR := hRn; have hA := hAn; have hBb := hBn; have BB := BBn; clear hRn hAn hBn BBn; replace cR0 := rng_bel cR0 d1; replace cR1 := rng_bel cR1 d1; replace oR0 := rng_bel oR0 d1; replace oR1 := rng_bel oR1 d1; replace oR2 := rng_bel oR2 d1) | (go_at_call 15; (with_reducible refine (rwgt_any R a b _ oR oa ob).mono ?_); rintro e v2 ⟨t2, ht2, rfl, d2⟩; have hRn := rng_bel hR d2; have hAn := rng_bel hA d2; have hBn := rng_bel hBb d2; have BBn := bl_trans BB d2; clear hR hA hBb BB; have hR := hRn; have hA := hAn; have hBb := hBn; have BB := BBn; clear hRn hAn hBn BBn; replace cR0 := rng_bel cR0 d2; replace cR1 := rng_bel cR1 d2; replace oR0 := rng_bel oR0 d2; replace oR1 := rng_bel oR1 d2; replace oR2 := rng_bel oR2 d2) | (go_at_call 16; (with_reducible refine (rwrm_any R a b _ oR oa ob).mono ?_); rintro e v3 ⟨C2, D2, hC2, hD2, rfl, d3⟩; have hRn := rng_bel hR d3; have hAn := rng_bel hA d3; have hBn := rng_bel hBb d3; have BBn := bl_trans BB d3; clear hR hA hBb BB; have hR := hRn; have hA := hAn; have hBb := hBn; have BB := BBn; clear hRn hAn hBn BBn; replace cR0 := rng_bel cR0 d3; replace cR1 := rng_bel cR1 d3; replace oR0 := rng_bel oR0 d3; replace oR1 := rng_bel oR1 d3; replace oR2 := rng_bel oR2 d3; (have gt0 : ((v3.alloc (.cells #[.float .f64 0, .float .f64 0, .float .f64 0, .float .f64 0, .float .f64 0] 28)).alloc (.cells #[.float .f64 0, .float .f64 0, .float .f64 0, .float .f64 0, .float .f64 0] 28)).there (v3.heap.size) 0 5 := World.there_alloc (there_new v3 [.float .f64 0, .float .f64 0, .float .f64 0, .float .f64 0, .float .f64 0] 28) _); (have gt1 : ((v3.alloc (.cells #[.float .f64 0, .float .f64 0, .float .f64 0, .float .f64 0, .float .f64 0] 28)).alloc (.cells #[.float .f64 0, .float .f64 0, .float .f64 0, .float .f64 0, .float .f64 0] 28)).there (v3.heap.size + 1) 0 5 := by have h := there_new (v3.alloc (.cells #[.float .f64 0, .float .f64 0, .float .f64 0, .float .f64 0, .float .f64 0] 28)) [.float .f64 0, .float .f64 0, .float .f64 0, .float .f64 0, .float .f64 0] 28; rw [World.size_alloc] at h; exact h); have gB : Bel v3 ((v3.alloc (.cells #[.float .f64 0, .float .f64 0, .float .f64 0, .float .f64 0, .float .f64 0] 28)).alloc (.cells #[.float .f64 0, .float .f64 0, .float .f64 0, .float .f64 0, .float .f64 0] 28)) := bl_alloc (bl_alloc (bl_refl _) _ _) _ _) | ((with_reducible show Oper.wp _ { dst := _, op := Op.store 28 _ _, type := _, pos := _, after := _, guard := _ } _ _ _ _); refine wp_store_abs (P := Try.prog) 28 _ _ rfl (v3.heap.size) 0 #[.float .f64 C2.sm, .float .f64 C2.si, .float .f64 C2.sx, .float .f64 C2.sy, .float .f64 C2.ss] rfl rfl gt0 (by kernel_rfl) (by kernel_rfl) (fun V => Bel v3 V ∧ V.rangeAt (v3.heap.size) 0 [.float .f64 C2.sm, .float .f64 C2.si, .float .f64 C2.sx, .float .f64 C2.sy, .float .f64 C2.ss] ∧ V.there (v3.heap.size + 1) 0 5) ⟨bel_setsJ _ _ gB (Nat.le_refl _), World.rangeAt_setCells_same _ _ _ _ gt0, World.there_setCells gt1 _ _ _⟩ ?_; rintro gV1 ⟨gC1, gr0, gt2⟩; simp only [go_sem]) | ((with_reducible show Oper.wp _ { dst := _, op := Op.store 28 _ _, type := _, pos := _, after := _, guard := _ } _ _ _ _); refine wp_store_abs (P := Try.prog) 28 _ _ rfl (v3.heap.size + 1) 0 #[.float .f64 D2.sm, .float .f64 D2.si, .float .f64 D2.sx, .float .f64 D2.sy, .float .f64 D2.ss] rfl rfl gt2 (by kernel_rfl) (by kernel_rfl) (fun V => Bel v3 V ∧ V.rangeAt (v3.heap.size) 0 [.float .f64 C2.sm, .float .f64 C2.si, .float .f64 C2.sx, .float .f64 C2.sy, .float .f64 C2.ss] ∧ V.rangeAt (v3.heap.size + 1) 0 [.float .f64 D2.sm, .float .f64 D2.si, .float .f64 D2.sx, .float .f64 D2.sy, .float .f64 D2.ss]) ⟨bel_setsJ _ _ gC1 (by omega), World.rangeAt_setCells_apart gr0 _ _ _ (.inl (by omega)), World.rangeAt_setCells_same _ _ _ _ gt2⟩ ?_; rintro gV2 ⟨gC2, gR0, gR1⟩; have hRn := rng_bel hR gC2; have hAn := rng_bel hA gC2; have hBn := rng_bel hBb gC2; have BBn := bl_trans BB gC2; clear hR hA hBb BB; have hR := hRn; have hA := hAn; have hBb := hBn; have BB := BBn; clear hRn hAn hBn BBn; replace cR0 := rng_bel cR0 gC2; replace cR1 := rng_bel cR1 gC2; replace oR0 := rng_bel oR0 gC2; replace oR1 := rng_bel oR1 gC2; replace oR2 := rng_bel oR2 gC2; clear gt0 gt1 gB gC1 gr0 gt2; simp only [go_sem]) | (go_at_call 17; (with_reducible refine (rone_any R a b _ oR oa ob).mono ?_); rintro e v4 ⟨Q2, X2, Y2, hQ2, hX2, hY2, rfl, d4⟩; have hRn := rng_bel hR d4; have hAn := rng_bel hA d4; have hBn := rng_bel hBb d4; have BBn := bl_trans BB d4; clear hR hA hBb BB; have hR := hRn; have hA := hAn; have hBb := hBn; have BB := BBn; clear hRn hAn hBn BBn; replace cR0 := rng_bel cR0 d4; replace cR1 := rng_bel cR1 d4; replace oR0 := rng_bel oR0 d4; replace oR1 := rng_bel oR1 d4; replace oR2 := rng_bel oR2 d4; replace gR0 := rng_bel gR0 d4; replace gR1 := rng_bel gR1 d4; (have qt0 : (((v4.alloc (.cells #[.int .i64 0, .int .i64 0, .float .f64 0, .float .f64 0, .float .f64 0, .float .f64 0, .float .f64 0, .float .f64 0, .float .f64 0, .float .f64 0, .float .f64 0, .float .f64 0, .int .i64 0, .float .f64 0] 26)).alloc (.cells #[.float .f64 0, .float .f64 0, .float .f64 0, .float .f64 0, .float .f64 0] 28)).alloc (.cells #[.float .f64 0, .float .f64 0, .float .f64 0, .float .f64 0, .float .f64 0] 28)).there (v4.heap.size) 0 14 := World.there_alloc (World.there_alloc (there_new v4 [.int .i64 0, .int .i64 0, .float .f64 0, .float .f64 0, .float .f64 0, .float .f64 0, .float .f64 0, .float .f64 0, .float .f64 0, .float .f64 0, .float .f64 0, .float .f64 0, .int .i64 0, .float .f64 0] 26) _) _); (have qt1 : (((v4.alloc (.cells #[.int .i64 0, .int .i64 0, .float .f64 0, .float .f64 0, .float .f64 0, .float .f64 0, .float .f64 0, .float .f64 0, .float .f64 0, .float .f64 0, .float .f64 0, .float .f64 0, .int .i64 0, .float .f64 0] 26)).alloc (.cells #[.float .f64 0, .float .f64 0, .float .f64 0, .float .f64 0, .float .f64 0] 28)).alloc (.cells #[.float .f64 0, .float .f64 0, .float .f64 0, .float .f64 0, .float .f64 0] 28)).there (v4.heap.size + 1) 0 5 := by have h := there_new (v4.alloc (.cells #[.int .i64 0, .int .i64 0, .float .f64 0, .float .f64 0, .float .f64 0, .float .f64 0, .float .f64 0, .float .f64 0, .float .f64 0, .float .f64 0, .float .f64 0, .float .f64 0, .int .i64 0, .float .f64 0] 26)) [.float .f64 0, .float .f64 0, .float .f64 0, .float .f64 0, .float .f64 0] 28; rw [World.size_alloc] at h; exact World.there_alloc h _); (have qt2 : (((v4.alloc (.cells #[.int .i64 0, .int .i64 0, .float .f64 0, .float .f64 0, .float .f64 0, .float .f64 0, .float .f64 0, .float .f64 0, .float .f64 0, .float .f64 0, .float .f64 0, .float .f64 0, .int .i64 0, .float .f64 0] 26)).alloc (.cells #[.float .f64 0, .float .f64 0, .float .f64 0, .float .f64 0, .float .f64 0] 28)).alloc (.cells #[.float .f64 0, .float .f64 0, .float .f64 0, .float .f64 0, .float .f64 0] 28)).there (v4.heap.size + 1 + 1) 0 5 := by have h := there_new ((v4.alloc (.cells #[.int .i64 0, .int .i64 0, .float .f64 0, .float .f64 0, .float .f64 0, .float .f64 0, .float .f64 0, .float .f64 0, .float .f64 0, .float .f64 0, .float .f64 0, .float .f64 0, .int .i64 0, .float .f64 0] 26)).alloc (.cells #[.float .f64 0, .float .f64 0, .float .f64 0, .float .f64 0, .float .f64 0] 28)) [.float .f64 0, .float .f64 0, .float .f64 0, .float .f64 0, .float .f64 0] 28; rw [World.size_alloc, World.size_alloc] at h; exact h); have qB : Bel v4 (((v4.alloc (.cells #[.int .i64 0, .int .i64 0, .float .f64 0, .float .f64 0, .float .f64 0, .float .f64 0, .float .f64 0, .float .f64 0, .float .f64 0, .float .f64 0, .float .f64 0, .float .f64 0, .int .i64 0, .float .f64 0] 26)).alloc (.cells #[.float .f64 0, .float .f64 0, .float .f64 0, .float .f64 0, .float .f64 0] 28)).alloc (.cells #[.float .f64 0, .float .f64 0, .float .f64 0, .float .f64 0, .float .f64 0] 28)) := bl_alloc (bl_alloc (bl_alloc (bl_refl _) _ _) _ _) _ _; obtain ⟨sR0, sR1, sR2, sR3, sR4, sR5, sR6, sR7, sR8, sR9, sRa, sRb, sRc, sRd⟩ := R_same hQ1 hQ2; obtain ⟨sX0, sX1, sX2, sX3, sX4⟩ := S_same hX1 hX2; obtain ⟨sY0, sY1, sY2, sY3, sY4⟩ := S_same hY1 hY2; obtain ⟨sC0, sC1, sC2, sC3, sC4⟩ := S_same hC1 hC2; obtain ⟨sD0, sD1, sD2, sD3, sD4⟩ := S_same hD1 hD2; have es := F_same hs1 hs2; have et := F_same ht1 ht2) | ((with_reducible show Oper.wp _ { dst := _, op := Op.store 26 _ _, type := _, pos := _, after := _, guard := _ } _ _ _ _); refine wp_store_abs (P := Try.prog) 26 _ _ rfl (v4.heap.size) 0 #[.int .i64 Q2.ra, .int .i64 Q2.rb, .float .f64 Q2.r2, .float .f64 Q2.r3, .float .f64 Q2.r4, .float .f64 Q2.r5, .float .f64 Q2.r6, .float .f64 Q2.r7, .float .f64 Q2.r8, .float .f64 Q2.r9, .float .f64 Q2.r10, .float .f64 Q2.r11, .int .i64 Q2.ro, .float .f64 Q2.r13] rfl rfl qt0 (by kernel_rfl) (by kernel_rfl) (fun V => Bel v4 V ∧ V.rangeAt (v4.heap.size) 0 [.int .i64 Q2.ra, .int .i64 Q2.rb, .float .f64 Q2.r2, .float .f64 Q2.r3, .float .f64 Q2.r4, .float .f64 Q2.r5, .float .f64 Q2.r6, .float .f64 Q2.r7, .float .f64 Q2.r8, .float .f64 Q2.r9, .float .f64 Q2.r10, .float .f64 Q2.r11, .int .i64 Q2.ro, .float .f64 Q2.r13] ∧ V.there (v4.heap.size + 1) 0 5 ∧ V.there (v4.heap.size + 1 + 1) 0 5) ⟨bel_setsJ _ _ qB (Nat.le_refl _), World.rangeAt_setCells_same _ _ _ _ qt0, World.there_setCells qt1 _ _ _, World.there_setCells qt2 _ _ _⟩ ?_; rintro qV1 ⟨qC1, qr0, qt3, qt4⟩; simp only [go_sem]) | ((with_reducible show Oper.wp _ { dst := _, op := Op.store 28 _ _, type := _, pos := _, after := _, guard := _ } _ _ _ _); refine wp_store_abs (P := Try.prog) 28 _ _ rfl (v4.heap.size + 1) 0 #[.float .f64 X2.sm, .float .f64 X2.si, .float .f64 X2.sx, .float .f64 X2.sy, .float .f64 X2.ss] rfl rfl qt3 (by kernel_rfl) (by kernel_rfl) (fun V => Bel v4 V ∧ V.rangeAt (v4.heap.size) 0 [.int .i64 Q2.ra, .int .i64 Q2.rb, .float .f64 Q2.r2, .float .f64 Q2.r3, .float .f64 Q2.r4, .float .f64 Q2.r5, .float .f64 Q2.r6, .float .f64 Q2.r7, .float .f64 Q2.r8, .float .f64 Q2.r9, .float .f64 Q2.r10, .float .f64 Q2.r11, .int .i64 Q2.ro, .float .f64 Q2.r13] ∧ V.rangeAt (v4.heap.size + 1) 0 [.float .f64 X2.sm, .float .f64 X2.si, .float .f64 X2.sx, .float .f64 X2.sy, .float .f64 X2.ss] ∧ V.there (v4.heap.size + 1 + 1) 0 5) ⟨bel_setsJ _ _ qC1 (by omega), World.rangeAt_setCells_apart qr0 _ _ _ (.inl (by omega)), World.rangeAt_setCells_same _ _ _ _ qt3, World.there_setCells qt4 _ _ _⟩ ?_; rintro qV2 ⟨qC2, qr1, qr2, qt5⟩; simp only [go_sem]) | ((with_reducible show Oper.wp _ { dst := _, op := Op.store 28 _ _, type := _, pos := _, after := _, guard := _ } _ _ _ _); refine wp_store_abs (P := Try.prog) 28 _ _ rfl (v4.heap.size + 1 + 1) 0 #[.float .f64 Y2.sm, .float .f64 Y2.si, .float .f64 Y2.sx, .float .f64 Y2.sy, .float .f64 Y2.ss] rfl rfl qt5 (by kernel_rfl) (by kernel_rfl) (fun V => Bel v4 V ∧ V.rangeAt (v4.heap.size) 0 [.int .i64 Q2.ra, .int .i64 Q2.rb, .float .f64 Q2.r2, .float .f64 Q2.r3, .float .f64 Q2.r4, .float .f64 Q2.r5, .float .f64 Q2.r6, .float .f64 Q2.r7, .float .f64 Q2.r8, .float .f64 Q2.r9, .float .f64 Q2.r10, .float .f64 Q2.r11, .int .i64 Q2.ro, .float .f64 Q2.r13] ∧ V.rangeAt (v4.heap.size + 1) 0 [.float .f64 X2.sm, .float .f64 X2.si, .float .f64 X2.sx, .float .f64 X2.sy, .float .f64 X2.ss] ∧ V.rangeAt (v4.heap.size + 1 + 1) 0 [.float .f64 Y2.sm, .float .f64 Y2.si, .float .f64 Y2.sx, .float .f64 Y2.sy, .float .f64 Y2.ss]) ⟨bel_setsJ _ _ qC2 (by omega), World.rangeAt_setCells_apart qr1 _ _ _ (.inl (by omega)), World.rangeAt_setCells_apart qr2 _ _ _ (.inl (by omega)), World.rangeAt_setCells_same _ _ _ _ qt5⟩ ?_; rintro qV3 ⟨qC3, qR0, qR1, qR2⟩; have hRn := rng_bel hR qC3; have hAn := rng_bel hA qC3; have hBn := rng_bel hBb qC3; have BBn := bl_trans BB qC3; clear hR hA hBb BB; have hR := hRn; have hA := hAn; have hBb := hBn; have BB := BBn; clear hRn hAn hBn BBn; replace cR0 := rng_bel cR0 qC3; replace cR1 := rng_bel cR1 qC3; replace oR0 := rng_bel oR0 qC3; replace oR1 := rng_bel oR1 qC3; replace oR2 := rng_bel oR2 qC3; replace gR0 := rng_bel gR0 qC3; replace gR1 := rng_bel gR1 qC3; clear qt0 qt1 qt2 qB qC1 qr0 qt3 qt4 qC2 qr1 qr2 qt5; simp only [go_sem]) | (go_at_call 18; (with_reducible refine (rIs_any s1 s2 _).mono ?_); rintro e z0 ⟨rfl, rfl⟩; rw [es]) | (go_at_call 18; (with_reducible refine (rIs_any t1 t2 _).mono ?_); rintro e z0 ⟨rfl, rfl⟩; rw [et]) | (go_at_call 19; (with_reducible refine (same20 C1 C2 _ sC0 sC1 sC2 sC3 sC4).mono ?_); rintro e z1 ⟨rfl, b9⟩; have hRn := rng_bel hR b9; have hAn := rng_bel hA b9; have hBn := rng_bel hBb b9; have BBn := bl_trans BB b9; clear hR hA hBb BB; have hR := hRn; have hA := hAn; have hBb := hBn; have BB := BBn; clear hRn hAn hBn BBn; replace cR0 := rng_bel cR0 b9; replace cR1 := rng_bel cR1 b9; replace oR0 := rng_bel oR0 b9; replace oR1 := rng_bel oR1 b9; replace oR2 := rng_bel oR2 b9; replace gR0 := rng_bel gR0 b9; replace gR1 := rng_bel gR1 b9; replace qR0 := rng_bel qR0 b9; replace qR1 := rng_bel qR1 b9; replace qR2 := rng_bel qR2 b9) | (go_at_call 19; (with_reducible refine (same20 D1 D2 _ sD0 sD1 sD2 sD3 sD4).mono ?_); rintro e z1 ⟨rfl, b9⟩; have hRn := rng_bel hR b9; have hAn := rng_bel hA b9; have hBn := rng_bel hBb b9; have BBn := bl_trans BB b9; clear hR hA hBb BB; have hR := hRn; have hA := hAn; have hBb := hBn; have BB := BBn; clear hRn hAn hBn BBn; replace cR0 := rng_bel cR0 b9; replace cR1 := rng_bel cR1 b9; replace oR0 := rng_bel oR0 b9; replace oR1 := rng_bel oR1 b9; replace oR2 := rng_bel oR2 b9; replace gR0 := rng_bel gR0 b9; replace gR1 := rng_bel gR1 b9; replace qR0 := rng_bel qR0 b9; replace qR1 := rng_bel qR1 b9; replace qR2 := rng_bel qR2 b9) | (go_at_call 19; (with_reducible refine (same20 X1 X2 _ sX0 sX1 sX2 sX3 sX4).mono ?_); rintro e z1 ⟨rfl, b9⟩; have hRn := rng_bel hR b9; have hAn := rng_bel hA b9; have hBn := rng_bel hBb b9; have BBn := bl_trans BB b9; clear hR hA hBb BB; have hR := hRn; have hA := hAn; have hBb := hBn; have BB := BBn; clear hRn hAn hBn BBn; replace cR0 := rng_bel cR0 b9; replace cR1 := rng_bel cR1 b9; replace oR0 := rng_bel oR0 b9; replace oR1 := rng_bel oR1 b9; replace oR2 := rng_bel oR2 b9; replace gR0 := rng_bel gR0 b9; replace gR1 := rng_bel gR1 b9; replace qR0 := rng_bel qR0 b9; replace qR1 := rng_bel qR1 b9; replace qR2 := rng_bel qR2 b9) | (go_at_call 19; (with_reducible refine (same20 Y1 Y2 _ sY0 sY1 sY2 sY3 sY4).mono ?_); rintro e z1 ⟨rfl, b9⟩; have hRn := rng_bel hR b9; have hAn := rng_bel hA b9; have hBn := rng_bel hBb b9; have BBn := bl_trans BB b9; clear hR hA hBb BB; have hR := hRn; have hA := hAn; have hBb := hBn; have BB := BBn; clear hRn hAn hBn BBn; replace cR0 := rng_bel cR0 b9; replace cR1 := rng_bel cR1 b9; replace oR0 := rng_bel oR0 b9; replace oR1 := rng_bel oR1 b9; replace oR2 := rng_bel oR2 b9; replace gR0 := rng_bel gR0 b9; replace gR1 := rng_bel gR1 b9; replace qR0 := rng_bel qR0 b9; replace qR1 := rng_bel qR1 b9; replace qR2 := rng_bel qR2 b9) | (go_at_call 20; (with_reducible refine (sameRow20 Q1 Q2 _ sR0 sR1 sR2 sR3 sR4 sR5 sR6 sR7 sR8 sR9 sRa sRb sRc sRd).mono ?_); rintro e z2 ⟨rfl, b8⟩; have hRn := rng_bel hR b8; have hAn := rng_bel hA b8; have hBn := rng_bel hBb b8; have BBn := bl_trans BB b8; clear hR hA hBb BB; have hR := hRn; have hA := hAn; have hBb := hBn; have BB := BBn; clear hRn hAn hBn BBn; replace cR0 := rng_bel cR0 b8; replace cR1 := rng_bel cR1 b8; replace oR0 := rng_bel oR0 b8; replace oR1 := rng_bel oR1 b8; replace oR2 := rng_bel oR2 b8; replace gR0 := rng_bel gR0 b8; replace gR1 := rng_bel gR1 b8; replace qR0 := rng_bel qR0 b8; replace qR1 := rng_bel qR1 b8; replace qR2 := rng_bel qR2 b8) | ((with_reducible show wpList _ _ _ ({ dst := _, op := Op.load 28 _, type := _, pos := _, after := _, guard := some _ } :: _) _ _); refine wpList_gload (by kernel_rfl) 28 _ rfl (u3.heap.size) 0 rfl [.float .f64 C1.sm, .float .f64 C1.si, .float .f64 C1.sx, .float .f64 C1.sy, .float .f64 C1.ss] _ (by with_reducible assumption) Try.underlying28 rfl (by kernel_rfl) ?_; simp only [go_sem]) | ((with_reducible show wpList _ _ _ ({ dst := _, op := Op.load 28 _, type := _, pos := _, after := _, guard := some _ } :: _) _ _); refine wpList_gload (by kernel_rfl) 28 _ rfl (u3.heap.size + 1) 0 rfl [.float .f64 D1.sm, .float .f64 D1.si, .float .f64 D1.sx, .float .f64 D1.sy, .float .f64 D1.ss] _ (by with_reducible assumption) Try.underlying28 rfl (by kernel_rfl) ?_; simp only [go_sem]) | ((with_reducible show wpList _ _ _ ({ dst := _, op := Op.load 28 _, type := _, pos := _, after := _, guard := some _ } :: _) _ _); refine wpList_gload (by kernel_rfl) 28 _ rfl (u4.heap.size + 1) 0 rfl [.float .f64 X1.sm, .float .f64 X1.si, .float .f64 X1.sx, .float .f64 X1.sy, .float .f64 X1.ss] _ (by with_reducible assumption) Try.underlying28 rfl (by kernel_rfl) ?_; simp only [go_sem]) | ((with_reducible show wpList _ _ _ ({ dst := _, op := Op.load 28 _, type := _, pos := _, after := _, guard := some _ } :: _) _ _); refine wpList_gload (by kernel_rfl) 28 _ rfl (u4.heap.size + 1 + 1) 0 rfl [.float .f64 Y1.sm, .float .f64 Y1.si, .float .f64 Y1.sx, .float .f64 Y1.sy, .float .f64 Y1.ss] _ (by with_reducible assumption) Try.underlying28 rfl (by kernel_rfl) ?_; simp only [go_sem]) | ((with_reducible show wpList _ _ _ ({ dst := _, op := Op.load 28 _, type := _, pos := _, after := _, guard := some _ } :: _) _ _); refine wpList_gload (by kernel_rfl) 28 _ rfl (v3.heap.size) 0 rfl [.float .f64 C2.sm, .float .f64 C2.si, .float .f64 C2.sx, .float .f64 C2.sy, .float .f64 C2.ss] _ (by with_reducible assumption) Try.underlying28 rfl (by kernel_rfl) ?_; simp only [go_sem]) | ((with_reducible show wpList _ _ _ ({ dst := _, op := Op.load 28 _, type := _, pos := _, after := _, guard := some _ } :: _) _ _); refine wpList_gload (by kernel_rfl) 28 _ rfl (v3.heap.size + 1) 0 rfl [.float .f64 D2.sm, .float .f64 D2.si, .float .f64 D2.sx, .float .f64 D2.sy, .float .f64 D2.ss] _ (by with_reducible assumption) Try.underlying28 rfl (by kernel_rfl) ?_; simp only [go_sem]) | ((with_reducible show wpList _ _ _ ({ dst := _, op := Op.load 28 _, type := _, pos := _, after := _, guard := some _ } :: _) _ _); refine wpList_gload (by kernel_rfl) 28 _ rfl (v4.heap.size + 1) 0 rfl [.float .f64 X2.sm, .float .f64 X2.si, .float .f64 X2.sx, .float .f64 X2.sy, .float .f64 X2.ss] _ (by with_reducible assumption) Try.underlying28 rfl (by kernel_rfl) ?_; simp only [go_sem]) | ((with_reducible show wpList _ _ _ ({ dst := _, op := Op.load 28 _, type := _, pos := _, after := _, guard := some _ } :: _) _ _); refine wpList_gload (by kernel_rfl) 28 _ rfl (v4.heap.size + 1 + 1) 0 rfl [.float .f64 Y2.sm, .float .f64 Y2.si, .float .f64 Y2.sx, .float .f64 Y2.sy, .float .f64 Y2.ss] _ (by with_reducible assumption) Try.underlying28 rfl (by kernel_rfl) ?_; simp only [go_sem]) | (with_reducible show Oper.wp _ _ _ _ _ _; refine wp_load_mid (P := Try.prog) 26 _ rfl (u4.heap.size) 0 rfl [.int .i64 Q1.ra, .int .i64 Q1.rb, .float .f64 Q1.r2, .float .f64 Q1.r3, .float .f64 Q1.r4, .float .f64 Q1.r5, .float .f64 Q1.r6, .float .f64 Q1.r7, .float .f64 Q1.r8, .float .f64 Q1.r9, .float .f64 Q1.r10, .float .f64 Q1.r11, .int .i64 Q1.ro, .float .f64 Q1.r13] _ (by with_reducible assumption) Try.underlying26 rfl (by kernel_rfl) ?_; simp only [go_sem]) | (with_reducible show Oper.wp _ _ _ _ _ _; refine wp_load_mid (P := Try.prog) 26 _ rfl (v4.heap.size) 0 rfl [.int .i64 Q2.ra, .int .i64 Q2.rb, .float .f64 Q2.r2, .float .f64 Q2.r3, .float .f64 Q2.r4, .float .f64 Q2.r5, .float .f64 Q2.r6, .float .f64 Q2.r7, .float .f64 Q2.r8, .float .f64 Q2.r9, .float .f64 Q2.r10, .float .f64 Q2.r11, .int .i64 Q2.ro, .float .f64 Q2.r13] _ (by with_reducible assumption) Try.underlying26 rfl (by kernel_rfl) ?_; simp only [go_sem]) | go_values | go_skip | go_guarded | go_step | go_upon | go_back | dsimp only)
  generalize erF R a b = er
  refine at_world (fun Z => Bel w Z ∧ Z.rangeAt (w.heap.size) 0 [.int .i64 R.ra, .int .i64 R.rb, .float .f64 R.r2, .float .f64 R.r3, .float .f64 R.r4, .float .f64 R.r5, .float .f64 R.r6, .float .f64 R.r7, .float .f64 R.r8, .float .f64 R.r9, .float .f64 R.r10, .float .f64 R.r11, .int .i64 R.ro, .float .f64 R.r13]) ⟨BB, hR⟩ ?_
  clear hR BB hA hBb
  rintro Z ⟨BB, hR⟩
  have BN := belBy_some Z
  have qL : ∀ p : BelBy Z, (Instr.loadAt 26 (.pointer (some ⟨w.heap.size, 0, none⟩))).run Try.prog p.world = .ok (.agg #[.int .i64 R.ra, .int .i64 R.rb, .float .f64 R.r2, .float .f64 R.r3, .float .f64 R.r4, .float .f64 R.r5, .float .f64 R.r6, .float .f64 R.r7, .float .f64 R.r8, .float .f64 R.r9, .float .f64 R.r10, .float .f64 R.r11, .int .i64 R.ro, .float .f64 R.r13]) p.world := fun p => run_loadAt_mid (P := Try.prog) p.world (w.heap.size) 0 26 [.int .i64 R.ra, .int .i64 R.rb, .float .f64 R.r2, .float .f64 R.r3, .float .f64 R.r4, .float .f64 R.r5, .float .f64 R.r6, .float .f64 R.r7, .float .f64 R.r8, .float .f64 R.r9, .float .f64 R.r10, .float .f64 R.r11, .int .i64 R.ro, .float .f64 R.r13] _ (rng_bel hR p.h) Try.underlying26 rfl (by kernel_rfl)
  refine wp_region_quiet_bel (by kernel_rfl) (by kernel_rfl) ?_
  repeat (first | (go_big_quiet_want; refine quiet_load20 26 _ rfl (.pointer (some ⟨w.heap.size, 0, none⟩)) (.agg #[.int .i64 R.ra, .int .i64 R.rb, .float .f64 R.r2, .float .f64 R.r3, .float .f64 R.r4, .float .f64 R.r5, .float .f64 R.r6, .float .f64 R.r7, .float .f64 R.r8, .float .f64 R.r9, .float .f64 R.r10, .float .f64 R.r11, .int .i64 R.ro, .float .f64 R.r13]) rfl (by rintro _ ⟨p, rfl⟩; exact qL p) ?_; simp only [Act.put, List.setIfInBounds_toArray, List.set_cons_zero, List.set_cons_succ]; go_big_quiet_on) | go_big_quiet_step (first | (go_at_call 21; exact calls_bel (cd_any R n m _)) | (go_at_call 22; exact calls_bel (rcd_any R n m _))))
  refine wpQuiet_nil ?_
  rintro _ ⟨pW, rfl⟩
  go_wp2
  go_ret
  exact ⟨by first | rfl | simp, (bl_trans BB pW.h).1⟩
theorem walk_any (ra_0 : Int) (rb_0 : Int) (r2_0 : Nat) (r3_0 : Nat) (r4_0 : Nat) (r5_0 : Nat) (r6_0 : Nat) (r7_0 : Nat) (r8_0 : Nat) (r9_0 : Nat) (r10_0 : Nat) (r11_0 : Nat) (ro_0 : Int) (r13_0 : Nat) (or2_0 : okK .f64 r2_0) (or3_0 : okK .f64 r3_0) (or4_0 : okK .f64 r4_0) (or5_0 : okK .f64 r5_0) (or6_0 : okK .f64 r6_0) (or7_0 : okK .f64 r7_0) (or8_0 : okK .f64 r8_0) (or9_0 : okK .f64 r9_0) (or10_0 : okK .f64 r10_0) (or11_0 : okK .f64 r11_0) (or13_0 : okK .f64 r13_0) (sm_1 : Nat) (si_1 : Nat) (sx_1 : Nat) (sy_1 : Nat) (ss_1 : Nat) (osm_1 : okK .f64 sm_1) (osi_1 : okK .f64 si_1) (osx_1 : okK .f64 sx_1) (osy_1 : okK .f64 sy_1) (oss_1 : okK .f64 ss_1) (sm_2 : Nat) (si_2 : Nat) (sx_2 : Nat) (sy_2 : Nat) (ss_2 : Nat) (osm_2 : okK .f64 sm_2) (osi_2 : okK .f64 si_2) (osx_2 : okK .f64 sx_2) (osy_2 : okK .f64 sy_2) (oss_2 : okK .f64 ss_2) (i_3 : Int) (i_4 : Int) (w : World) : Calls Try.prog 3 #[.agg #[.int .i64 ra_0, .int .i64 rb_0, .float .f64 r2_0, .float .f64 r3_0, .float .f64 r4_0, .float .f64 r5_0, .float .f64 r6_0, .float .f64 r7_0, .float .f64 r8_0, .float .f64 r9_0, .float .f64 r10_0, .float .f64 r11_0, .int .i64 ro_0, .float .f64 r13_0], .agg #[.float .f64 sm_1, .float .f64 si_1, .float .f64 sx_1, .float .f64 sy_1, .float .f64 ss_1], .agg #[.float .f64 sm_2, .float .f64 si_2, .float .f64 sx_2, .float .f64 sy_2, .float .f64 ss_2], .int .i64 i_3, .int .i64 i_4] w fun e w' => e = .returned (.bool true) ∧ Below w.heap.size w w' :=
  walk_R ⟨ra_0, rb_0, r2_0, r3_0, r4_0, r5_0, r6_0, r7_0, r8_0, r9_0, r10_0, r11_0, ro_0, r13_0⟩ ⟨sm_1, si_1, sx_1, sy_1, ss_1⟩ ⟨sm_2, si_2, sx_2, sy_2, ss_2⟩ i_3 i_4 w ⟨or2_0, or3_0, or4_0, or5_0, or6_0, or7_0, or8_0, or9_0, or10_0, or11_0, or13_0⟩ ⟨osm_1, osi_1, osx_1, osy_1, oss_1⟩ ⟨osm_2, osi_2, osx_2, osy_2, oss_2⟩

set_option maxRecDepth 100000 in
theorem lifted (os : Os) (started : os.Started) (H : Type) (enc : TypeId × Value → H) :
    ReturnsInHanded {} Try.checked os 3 .any (Rows.rowOnesSpec.pre6 enc Try.prog Try.f3 Rows.rowOnesRow.domain false) (Rows.rowOnesSpec.post enc Try.prog Try.f3 false true false false) := by
  refine returnsInHanded_of_change_sized (C := Try.checked) own started (by kernel_rfl) Try.func3
    (ChangeSpec.witness6 (enc := enc) (C := Try.checked) false ⟨#[], #[.agg #[.int .i64 0, .int .i64 0, .float .f64 0, .float .f64 0, .float .f64 0, .float .f64 0, .float .f64 0, .float .f64 0, .float .f64 0, .float .f64 0, .float .f64 0, .float .f64 0, .int .i64 0, .float .f64 0], .agg #[.float .f64 0, .float .f64 0, .float .f64 0, .float .f64 0, .float .f64 0], .agg #[.float .f64 0, .float .f64 0, .float .f64 0, .float .f64 0, .float .f64 0], .int .i64 0, .int .i64 0], []⟩ 8 (by kernel_rfl) (by kernel_rfl) (by kernel_rfl) (by kernel_rfl)) ?_
  intro W base args ds gs before hval0 hW hcnd hsz0 _
  have hval : ∀ (j : Nat) t v, Try.f3.params[j]? = some t → args[j]? = some v → Value.okWide Try.prog W .any base t v := hval0
  have hW' := hW
  obtain ⟨p, q, hA0, hV, rfl, hfz, hnd⟩ := hW
  have hA : DataW.TrodAll enc Try.prog W 0 (fun _ => true) true Try.f3.params.toList args.toList ds p := hA0
  rw [Try.params3] at hA hval
  obtain ⟨v0, vs0, d0, ds0, pl0, ql0, hargs, rfl, rfl, h0, r0⟩ := trodAll_cons hA
  obtain ⟨v1, vs1, d1, ds1, pl1, ql1, e1, rfl, rfl, h1, r1⟩ := trodAll_cons r0
  obtain ⟨v2, vs2, d2, ds2, pl2, ql2, e2, rfl, rfl, h2, r2⟩ := trodAll_cons r1
  obtain ⟨v3, vs3, d3, ds3, pl3, ql3, e3, rfl, rfl, h3, r3⟩ := trodAll_cons r2
  obtain ⟨v4, vs4, d4, ds4, pl4, ql4, e4, rfl, rfl, h4, r4⟩ := trodAll_cons r3
  obtain ⟨rfl, rfl, rfl⟩ := trodAll_nil r4
  obtain rfl : args = #[v0, v1, v2, v3, v4] := by cases args; simp_all
  obtain ⟨rfl, rfl⟩ := trodVars_none hV
  have k0 := h0
  have lt0 : ∀ x ∈ pl0, x.block < W.heap.size := by obtain ⟨m, hm⟩ := k0; exact DataW.trod_lt m _ _ _ hm
  obtain ⟨cs0, rfl, hsz0⟩ := okWide_struct Try.underlying26 (hval 0 26 v0 rfl rfl)
  obtain ⟨fu0, hf0⟩ := h0
  obtain ⟨ra_0, rb_0, r2_0, r3_0, r4_0, r5_0, r6_0, r7_0, r8_0, r9_0, r10_0, r11_0, ro_0, r13_0, hl0, or2_0, or3_0, or4_0, or5_0, or6_0, or7_0, or8_0, or9_0, or10_0, or11_0, or13_0⟩ := open_row (l := cs0.toList) (by rw [Array.length_toList, hsz0]; exact cellsR) hf0
  obtain rfl : cs0 = #[.int .i64 ra_0, .int .i64 rb_0, .float .f64 r2_0, .float .f64 r3_0, .float .f64 r4_0, .float .f64 r5_0, .float .f64 r6_0, .float .f64 r7_0, .float .f64 r8_0, .float .f64 r9_0, .float .f64 r10_0, .float .f64 r11_0, .int .i64 ro_0, .float .f64 r13_0] := by rw [← Array.toArray_toList (xs := cs0), hl0]
  have k1 := h1
  have lt1 : ∀ x ∈ pl1, x.block < W.heap.size := by obtain ⟨m, hm⟩ := k1; exact DataW.trod_lt m _ _ _ hm
  obtain ⟨cs1, rfl, hsz1⟩ := okWide_struct Try.underlying28 (hval 1 28 v1 rfl rfl)
  obtain ⟨fu1, hf1⟩ := h1
  obtain ⟨sm_1, si_1, sx_1, sy_1, ss_1, hl1, osm_1, osi_1, osx_1, osy_1, oss_1⟩ := open_still (l := cs1.toList) (by rw [Array.length_toList, hsz1]; exact cellsS) hf1
  obtain rfl : cs1 = #[.float .f64 sm_1, .float .f64 si_1, .float .f64 sx_1, .float .f64 sy_1, .float .f64 ss_1] := by rw [← Array.toArray_toList (xs := cs1), hl1]
  have k2 := h2
  have lt2 : ∀ x ∈ pl2, x.block < W.heap.size := by obtain ⟨m, hm⟩ := k2; exact DataW.trod_lt m _ _ _ hm
  obtain ⟨cs2, rfl, hsz2⟩ := okWide_struct Try.underlying28 (hval 2 28 v2 rfl rfl)
  obtain ⟨fu2, hf2⟩ := h2
  obtain ⟨sm_2, si_2, sx_2, sy_2, ss_2, hl2, osm_2, osi_2, osx_2, osy_2, oss_2⟩ := open_still (l := cs2.toList) (by rw [Array.length_toList, hsz2]; exact cellsS) hf2
  obtain rfl : cs2 = #[.float .f64 sm_2, .float .f64 si_2, .float .f64 sx_2, .float .f64 sy_2, .float .f64 ss_2] := by rw [← Array.toArray_toList (xs := cs2), hl2]
  have k3 := h3
  have lt3 : ∀ x ∈ pl3, x.block < W.heap.size := by obtain ⟨m, hm⟩ := k3; exact DataW.trod_lt m _ _ _ hm
  obtain ⟨i_3, rfl, _, _, wi_3⟩ := open_int Try.underlying3 (hval 3 3 v3 rfl rfl) h3
  have k4 := h4
  have lt4 : ∀ x ∈ pl4, x.block < W.heap.size := by obtain ⟨m, hm⟩ := k4; exact DataW.trod_lt m _ _ _ hm
  obtain ⟨i_4, rfl, _, _, wi_4⟩ := open_int Try.underlying3 (hval 4 3 v4 rfl rfl) h4
  clear hA0 hval0 hsz0
  refine (walk_any ra_0 rb_0 r2_0 r3_0 r4_0 r5_0 r6_0 r7_0 r8_0 r9_0 r10_0 r11_0 ro_0 r13_0 or2_0 or3_0 or4_0 or5_0 or6_0 or7_0 or8_0 or9_0 or10_0 or11_0 or13_0 sm_1 si_1 sx_1 sy_1 ss_1 osm_1 osi_1 osx_1 osy_1 oss_1 sm_2 si_2 sx_2 sy_2 ss_2 osm_2 osi_2 osx_2 osy_2 oss_2 i_3 i_4 W).mono fun e W' ⟨he, bel0⟩ => ?_
  have bel := bel0
  subst he
  exact ⟨_, rfl, _, _, _, [], _, [], hW', trodAll_mk1 (shut_bool Try.underlying4 _), (trodAll_cons_mk (Below.trod laidOut (by kernel_rfl) (of_decide_eq_true (by kernel_rfl)) k0 bel lt0) (trodAll_cons_mk (Below.trod laidOut (by kernel_rfl) (of_decide_eq_true (by kernel_rfl)) k1 bel lt1) (trodAll_cons_mk (Below.trod laidOut (by kernel_rfl) (of_decide_eq_true (by kernel_rfl)) k2 bel lt2) (trodAll_cons_mk (Below.trod laidOut (by kernel_rfl) (of_decide_eq_true (by kernel_rfl)) k3 bel lt3) (trodAll_cons_mk (Below.trod laidOut (by kernel_rfl) (of_decide_eq_true (by kernel_rfl)) k4 bel lt4) trodAll_mk0))))), rfl, bel.frame _, fun h => by cases h⟩

theorem over : Rows.rowOnesRow.holds Try.pinned (OpenSpec.ofChange Rows.rowOnesSpec) :=
  OpenClaim.holds_of_wide 3 Try.f3 rfl rfl rfl rfl rfl rfl rfl ⟨rfl, rfl, rfl, rfl, rfl⟩ rfl rfl rfl rfl rfl (by kernel_rfl) Try.func3 (by kernel_rfl)
    (of_decide_eq_true (by kernel_rfl)) (by unfold Func.isWrapper; first | (rw [if_pos (by decide +kernel)]; kernel_rfl) | (rw [if_neg (by decide +kernel)]; exact ⟨rfl, rfl⟩))
    (fun os started H enc _ => lifted os started H enc)

theorem proved : Rows.RowOnesSaid :=
  over
#print axioms proved
end Go.Proofs.Ythnnoofelbkcfaa.rowOnes
