/-
  What each function of package poly answers, and what the reference of its chapter answers: one contract a function, for every float: the answer stands in the relation of its formula to what was given; of the memory that was there nothing has turned.
-/
import Derived.Test.YtfohggiehbplkaaVec
import Derived.Test.YtfohggiehbplkaaKd
import Derived.Below
import Derived.WalkKit
import Derived.WalkLawsBesides
import Derived.WalkSpells
import Derived.ProofKit
import Derived.OpenShut
import Derived.Deep.RegionHeld3
namespace Go.Proofs.Ytfohggiehbplkaa
open Go.ChangeShapes Go.WideShapes Go.ChangeAt Go.RowKit
set_option linter.unusedVariables false
set_option linter.unusedSimpArgs false


theorem sm_self9 (x : Nat) : smK .f64 x x = true := bits_iff.2 rfl
theorem rSame_eq9 (x y : Nat) (w : World) : Calls Try.prog 54 #[.agg #[.float .f64 x, .float .f64 y], .agg #[.float .f64 x, .float .f64 y]] w fun e w' => e = .returned (.bool true) ∧ Bel w w' :=
  (rSame_any x y x y w).mono fun e w' ⟨he, hb⟩ => ⟨by rw [he, sm_self9, sm_self9]; rfl, hb⟩
theorem ris_eq9 (x : Nat) (w : World) : Calls Try.prog 37 #[.float .f64 x, .float .f64 x] w fun e w' => e = .returned (.bool true) ∧ Bel w w' :=
  (rIs_any x x w).mono fun e w' ⟨he, hb⟩ => ⟨by rw [he, sm_self9], by rw [hb]; exact bl_refl _⟩
set_option maxRecDepth 100000 in
set_option maxHeartbeats 4000000 in
theorem samePts (ab ao ac bb bo bc n : Nat) (as_ bs_ : Option Addr) (P : Nat → PD) (w : World) (ha : n = 0 ∨ as_ = some ⟨ab, ao, none⟩) (hb_ : n = 0 ∨ bs_ = some ⟨bb, bo, none⟩) (h1 : n ≤ ac) (h2 : n ≤ bc) (hn : n ≤ 100000) (hS : Pts w ab ao n P) (hT : Pts w bb bo n P) : Calls Try.prog 55 #[.slice as_ n ac, .slice bs_ n bc] w fun e w' => e = .returned (.bool true) ∧ Bel w w' := by
  go_enter Try.func55, Try.ntmps55
  repeat (first | go_values | go_skip | go_guarded | go_step | go_upon | go_back | dsimp only)
  go_loopw [5] (fun i wr => ∃ k : Nat, k ≤ n ∧ i = .int .i64 k ∧ Bel w wr) (fun i _ => n - (intOf i).toNat)
  case atStart => exact ⟨0, by omega, rfl, bl_refl _⟩
  case round =>
    obtain ⟨k, hk, rfl, hB⟩ := hrel
    by_cases hlt : k < n
    · have e1 : as_ = some ⟨ab, ao, none⟩ := by rcases ha with h | h; omega; exact h
      have e2 : bs_ = some ⟨bb, bo, none⟩ := by rcases hb_ with h | h; omega; exact h
      subst e1 e2
      have hkI : (k : Int) < (n : Int) := by omega
      have hkA : (k : Int) < (ac : Int) := by omega
      have hkB : (k : Int) < (bc : Int) := by omega
      have wi : IntKind.wrap .i64 ((k : Int) + 1) = (k : Int) + 1 := by rw [IntKind.wrap_i64]; omega
      have x0 : wr.cell? ⟨ab, ao + k * 6, none⟩ = some (.float .f64 (P k).x) := ((hS.bel hB) k hlt) 0 _ rfl
      have x1 : wr.cell? ⟨ab, ao + k * 6 + 1, none⟩ = some (.float .f64 (P k).y) := ((hS.bel hB) k hlt) 1 _ rfl
      have x2 : wr.cell? ⟨ab, ao + k * 6 + 2, none⟩ = some (.float .f64 (P k).dp) := ((hS.bel hB) k hlt) 2 _ rfl
      have x3 : wr.cell? ⟨ab, ao + k * 6 + 3, none⟩ = some (.int .u32 (P k).id) := ((hS.bel hB) k hlt) 3 _ rfl
      have x4 : wr.cell? ⟨ab, ao + k * 6 + 4, none⟩ = some (.float .f64 (P k).pu) := ((hS.bel hB) k hlt) 4 _ rfl
      have x5 : wr.cell? ⟨ab, ao + k * 6 + 5, none⟩ = some (.float .f64 (P k).dr) := ((hS.bel hB) k hlt) 5 _ rfl
      have y0 : wr.cell? ⟨bb, bo + k * 6, none⟩ = some (.float .f64 (P k).x) := ((hT.bel hB) k hlt) 0 _ rfl
      have y1 : wr.cell? ⟨bb, bo + k * 6 + 1, none⟩ = some (.float .f64 (P k).y) := ((hT.bel hB) k hlt) 1 _ rfl
      have y2 : wr.cell? ⟨bb, bo + k * 6 + 2, none⟩ = some (.float .f64 (P k).dp) := ((hT.bel hB) k hlt) 2 _ rfl
      have y3 : wr.cell? ⟨bb, bo + k * 6 + 3, none⟩ = some (.int .u32 (P k).id) := ((hT.bel hB) k hlt) 3 _ rfl
      have y4 : wr.cell? ⟨bb, bo + k * 6 + 4, none⟩ = some (.float .f64 (P k).pu) := ((hT.bel hB) k hlt) 4 _ rfl
      have y5 : wr.cell? ⟨bb, bo + k * 6 + 5, none⟩ = some (.float .f64 (P k).dr) := ((hT.bel hB) k hlt) 5 _ rfl
      have la := World.block_lt_of_cell? _ _ x0
      have lb := World.block_lt_of_cell? _ _ y0
      simp only at la lb
      haveI := belBy_some wr
      have ux0 := belBy_cell x0
      have ux1 := belBy_cell x1
      have ux2 := belBy_cell x2
      have ux3 := belBy_cell x3
      have ux4 := belBy_cell x4
      have ux5 := belBy_cell x5
      have uy0 := belBy_cell y0
      have uy1 := belBy_cell y1
      have uy2 := belBy_cell y2
      have uy3 := belBy_cell y3
      have uy4 := belBy_cell y4
      have uy5 := belBy_cell y5
      repeat (first | go_values | go_skip | go_guarded | go_step | go_upon | go_back | dsimp only)
      refine wp_region_quiet_bel (by kernel_rfl) (by kernel_rfl) ?_
      repeat (go_big_quiet_step (first | (go_at_call 54; (with_reducible exact calls_bel (rSame_eq9 _ _ _))) | (go_at_call 37; (with_reducible exact calls_bel (ris_eq9 _ _)))))
      refine wpQuiet_nil ?_
      rintro _ ⟨nq, rfl⟩
      generalize hW : nq.world = W
      have hq : Bel wr W := hW ▸ nq.h
      clear ux0 ux1 ux2 ux3 ux4 ux5 uy0 uy1 uy2 uy3 uy4 uy5
      haveI := belBy_some W
      have ux0 := belBy_cell (keep hq x0)
      have ux1 := belBy_cell (keep hq x1)
      have ux2 := belBy_cell (keep hq x2)
      have ux3 := belBy_cell (keep hq x3)
      have ux4 := belBy_cell (keep hq x4)
      have ux5 := belBy_cell (keep hq x5)
      have uy0 := belBy_cell (keep hq y0)
      have uy1 := belBy_cell (keep hq y1)
      have uy2 := belBy_cell (keep hq y2)
      have uy3 := belBy_cell (keep hq y3)
      have uy4 := belBy_cell (keep hq y4)
      have uy5 := belBy_cell (keep hq y5)
      repeat (first | go_values | go_skip | go_guarded | go_step | go_upon | go_back | dsimp only)
      refine wp_region_quiet_bel (by kernel_rfl) (by kernel_rfl) ?_
      repeat (go_big_quiet_step (first | (go_at_call 54; (with_reducible exact calls_bel (rSame_eq9 _ _ _))) | (go_at_call 37; (with_reducible exact calls_bel (ris_eq9 _ _)))))
      refine wpQuiet_nil ?_
      rintro _ ⟨nr, rfl⟩
      repeat (first | go_values | go_skip | go_guarded | go_step | go_upon | go_back | dsimp only)
      exact ⟨⟨k + 1, by omega, by go_num, bl_trans (bl_trans hB hq) nr.h⟩, by simp [intOf]; omega⟩
    · have hkn : k = n := by omega
      subst hkn
      repeat (first | go_values | go_skip | go_guarded | go_step | go_upon | go_back | dsimp only)
      go_ret
      exact ⟨rfl, hB⟩

theorem run_eqp (a b c d : Int) (X : World) : (binOp .eql 23 (.agg #[.int .i64 a, .int .i64 b, .int .i64 c, .int .i64 d]) (.agg #[.int .i64 a, .int .i64 b, .int .i64 c, .int .i64 d])).run Try.prog X = .ok (.bool true) X := by
  simp [go_sem]
set_option maxRecDepth 100000 in
set_option maxHeartbeats 4000000 in
theorem sameT (T : TD) (ab ao ac bb bo bc n : Nat) (as_ bs_ : Option Addr) (P : Nat → PD) (w : World) (ha : n = 0 ∨ as_ = some ⟨ab, ao, none⟩) (hb_ : n = 0 ∨ bs_ = some ⟨bb, bo, none⟩) (h1 : n ≤ ac) (h2 : n ≤ bc) (hn : n ≤ 100000) (hS : Pts w ab ao n P) (hT : Pts w bb bo n P) : Calls Try.prog 13 #[.agg #[.int .i64 T.ta, .int .i64 T.tp, .int .i64 T.tb, .int .i64 T.tq, .bool T.ts, .float .f64 T.tx, .float .f64 T.ty, .slice as_ n ac], .agg #[.int .i64 T.ta, .int .i64 T.tp, .int .i64 T.tb, .int .i64 T.tq, .bool T.ts, .float .f64 T.tx, .float .f64 T.ty, .slice bs_ n bc]] w fun e w' => e = .returned (.bool true) ∧ Bel w w' := by
  have qe := run_eqp
  have hA : ((w.alloc (.cells #[.int .i64 T.ta, .int .i64 T.tp, .int .i64 T.tb, .int .i64 T.tq, .bool T.ts, .float .f64 T.tx, .float .f64 T.ty, .slice as_ n ac] 29)).alloc (.cells #[.int .i64 T.ta, .int .i64 T.tp, .int .i64 T.tb, .int .i64 T.tq, .bool T.ts, .float .f64 T.tx, .float .f64 T.ty, .slice bs_ n bc] 29)).rangeAt (w.heap.size) 0 [.int .i64 T.ta, .int .i64 T.tp, .int .i64 T.tb, .int .i64 T.tq, .bool T.ts, .float .f64 T.tx, .float .f64 T.ty, .slice as_ n ac] := World.rangeAt_alloc (rng_new w [.int .i64 T.ta, .int .i64 T.tp, .int .i64 T.tb, .int .i64 T.tq, .bool T.ts, .float .f64 T.tx, .float .f64 T.ty, .slice as_ n ac] 29) _
  have hC : ((w.alloc (.cells #[.int .i64 T.ta, .int .i64 T.tp, .int .i64 T.tb, .int .i64 T.tq, .bool T.ts, .float .f64 T.tx, .float .f64 T.ty, .slice as_ n ac] 29)).alloc (.cells #[.int .i64 T.ta, .int .i64 T.tp, .int .i64 T.tb, .int .i64 T.tq, .bool T.ts, .float .f64 T.tx, .float .f64 T.ty, .slice bs_ n bc] 29)).rangeAt (w.heap.size + 1) 0 [.int .i64 T.ta, .int .i64 T.tp, .int .i64 T.tb, .int .i64 T.tq, .bool T.ts, .float .f64 T.tx, .float .f64 T.ty, .slice bs_ n bc] := by have h := rng_new (w.alloc (.cells #[.int .i64 T.ta, .int .i64 T.tp, .int .i64 T.tb, .int .i64 T.tq, .bool T.ts, .float .f64 T.tx, .float .f64 T.ty, .slice as_ n ac] 29)) [.int .i64 T.ta, .int .i64 T.tp, .int .i64 T.tb, .int .i64 T.tq, .bool T.ts, .float .f64 T.tx, .float .f64 T.ty, .slice bs_ n bc] 29; rwa [World.size_alloc] at h
  have BB : Bel w ((w.alloc (.cells #[.int .i64 T.ta, .int .i64 T.tp, .int .i64 T.tb, .int .i64 T.tq, .bool T.ts, .float .f64 T.tx, .float .f64 T.ty, .slice as_ n ac] 29)).alloc (.cells #[.int .i64 T.ta, .int .i64 T.tp, .int .i64 T.tb, .int .i64 T.tq, .bool T.ts, .float .f64 T.tx, .float .f64 T.ty, .slice bs_ n bc] 29)) := bl_alloc (bl_alloc (bl_refl w) _ _) _ _
  have hPA : ((w.alloc (.cells #[.int .i64 T.ta, .int .i64 T.tp, .int .i64 T.tb, .int .i64 T.tq, .bool T.ts, .float .f64 T.tx, .float .f64 T.ty, .slice as_ n ac] 29)).alloc (.cells #[.int .i64 T.ta, .int .i64 T.tp, .int .i64 T.tb, .int .i64 T.tq, .bool T.ts, .float .f64 T.tx, .float .f64 T.ty, .slice bs_ n bc] 29)).rangeAt (w.heap.size) 0 [.int .i64 T.ta, .int .i64 T.tp, .int .i64 T.tb, .int .i64 T.tq] := rng_mid 0 4 hA
  have hPB : ((w.alloc (.cells #[.int .i64 T.ta, .int .i64 T.tp, .int .i64 T.tb, .int .i64 T.tq, .bool T.ts, .float .f64 T.tx, .float .f64 T.ty, .slice as_ n ac] 29)).alloc (.cells #[.int .i64 T.ta, .int .i64 T.tp, .int .i64 T.tb, .int .i64 T.tq, .bool T.ts, .float .f64 T.tx, .float .f64 T.ty, .slice bs_ n bc] 29)).rangeAt (w.heap.size + 1) 0 [.int .i64 T.ta, .int .i64 T.tp, .int .i64 T.tb, .int .i64 T.tq] := rng_mid 0 4 hC
  have hNA : ((w.alloc (.cells #[.int .i64 T.ta, .int .i64 T.tp, .int .i64 T.tb, .int .i64 T.tq, .bool T.ts, .float .f64 T.tx, .float .f64 T.ty, .slice as_ n ac] 29)).alloc (.cells #[.int .i64 T.ta, .int .i64 T.tp, .int .i64 T.tb, .int .i64 T.tq, .bool T.ts, .float .f64 T.tx, .float .f64 T.ty, .slice bs_ n bc] 29)).rangeAt (w.heap.size) 5 [.float .f64 T.tx, .float .f64 T.ty] := by have h := rng_mid 5 2 hA; rwa [Nat.zero_add] at h
  have hNB : ((w.alloc (.cells #[.int .i64 T.ta, .int .i64 T.tp, .int .i64 T.tb, .int .i64 T.tq, .bool T.ts, .float .f64 T.tx, .float .f64 T.ty, .slice as_ n ac] 29)).alloc (.cells #[.int .i64 T.ta, .int .i64 T.tp, .int .i64 T.tb, .int .i64 T.tq, .bool T.ts, .float .f64 T.tx, .float .f64 T.ty, .slice bs_ n bc] 29)).rangeAt (w.heap.size + 1) 5 [.float .f64 T.tx, .float .f64 T.ty] := by have h := rng_mid 5 2 hC; rwa [Nat.zero_add] at h
  have kA : ((w.alloc (.cells #[.int .i64 T.ta, .int .i64 T.tp, .int .i64 T.tb, .int .i64 T.tq, .bool T.ts, .float .f64 T.tx, .float .f64 T.ty, .slice as_ n ac] 29)).alloc (.cells #[.int .i64 T.ta, .int .i64 T.tp, .int .i64 T.tb, .int .i64 T.tq, .bool T.ts, .float .f64 T.tx, .float .f64 T.ty, .slice bs_ n bc] 29)).cell? ⟨w.heap.size, 7, none⟩ = some (.slice as_ n ac) := by have h := hA 7 _ rfl; rwa [Nat.zero_add] at h
  have kB : ((w.alloc (.cells #[.int .i64 T.ta, .int .i64 T.tp, .int .i64 T.tb, .int .i64 T.tq, .bool T.ts, .float .f64 T.tx, .float .f64 T.ty, .slice as_ n ac] 29)).alloc (.cells #[.int .i64 T.ta, .int .i64 T.tp, .int .i64 T.tb, .int .i64 T.tq, .bool T.ts, .float .f64 T.tx, .float .f64 T.ty, .slice bs_ n bc] 29)).cell? ⟨w.heap.size + 1, 7, none⟩ = some (.slice bs_ n bc) := by have h := hC 7 _ rfl; rwa [Nat.zero_add] at h
  have sA : ((w.alloc (.cells #[.int .i64 T.ta, .int .i64 T.tp, .int .i64 T.tb, .int .i64 T.tq, .bool T.ts, .float .f64 T.tx, .float .f64 T.ty, .slice as_ n ac] 29)).alloc (.cells #[.int .i64 T.ta, .int .i64 T.tp, .int .i64 T.tb, .int .i64 T.tq, .bool T.ts, .float .f64 T.tx, .float .f64 T.ty, .slice bs_ n bc] 29)).cell? ⟨w.heap.size, 4, none⟩ = some (.bool T.ts) := by have h := hA 4 _ rfl; rwa [Nat.zero_add] at h
  have sB : ((w.alloc (.cells #[.int .i64 T.ta, .int .i64 T.tp, .int .i64 T.tb, .int .i64 T.tq, .bool T.ts, .float .f64 T.tx, .float .f64 T.ty, .slice as_ n ac] 29)).alloc (.cells #[.int .i64 T.ta, .int .i64 T.tp, .int .i64 T.tb, .int .i64 T.tq, .bool T.ts, .float .f64 T.tx, .float .f64 T.ty, .slice bs_ n bc] 29)).cell? ⟨w.heap.size + 1, 4, none⟩ = some (.bool T.ts) := by have h := hC 4 _ rfl; rwa [Nat.zero_add] at h
  clear hA hC
  go_enter Try.func13, Try.ntmps13
  repeat (first | (first | ((with_reducible show Oper.wp _ { dst := _, op := Op.load 26 _, type := _, pos := _, after := _, guard := _ } _ _ _ _); refine wp_load_mid (P := Try.prog) 26 _ rfl _ _ rfl [.float .f64 T.tx, .float .f64 T.ty] _ hNA Try.underlying26 rfl (by kernel_rfl) ?_; simp only [go_sem]) | ((with_reducible show Oper.wp _ { dst := _, op := Op.load 26 _, type := _, pos := _, after := _, guard := _ } _ _ _ _); refine wp_load_mid (P := Try.prog) 26 _ rfl _ _ rfl [.float .f64 T.tx, .float .f64 T.ty] _ hNB Try.underlying26 rfl (by kernel_rfl) ?_; simp only [go_sem])) | (first | ((with_reducible show Oper.wp _ { dst := _, op := Op.load 23 _, type := _, pos := _, after := _, guard := _ } _ _ _ _); refine wp_load_mid (P := Try.prog) 23 _ rfl _ _ rfl [.int .i64 T.ta, .int .i64 T.tp, .int .i64 T.tb, .int .i64 T.tq] _ hPA Try.underlying23 rfl (by kernel_rfl) ?_; simp only [go_sem]) | ((with_reducible show Oper.wp _ { dst := _, op := Op.load 23 _, type := _, pos := _, after := _, guard := _ } _ _ _ _); refine wp_load_mid (P := Try.prog) 23 _ rfl _ _ rfl [.int .i64 T.ta, .int .i64 T.tp, .int .i64 T.tb, .int .i64 T.tq] _ hPB Try.underlying23 rfl (by kernel_rfl) ?_; simp only [go_sem])) | (go_at_call 54; (with_reducible refine (rSame_eq9 _ _ _).mono ?_); rintro e w1 ⟨rfl, hb1⟩; replace hNA := rng_bel hNA hb1; replace hNB := rng_bel hNB hb1; replace hPA := rng_bel hPA hb1; replace hPB := rng_bel hPB hb1; replace kA := keep hb1 kA; replace kB := keep hb1 kB; replace sA := keep hb1 sA; replace sB := keep hb1 sB; replace BB := bl_trans BB hb1) | (go_at_call 55; (with_reducible refine (samePts ab ao ac bb bo bc n as_ bs_ P _ ha hb_ h1 h2 hn (hS.bel BB) (hT.bel BB)).mono ?_); rintro e w2 ⟨rfl, hb2⟩; replace hNA := rng_bel hNA hb2; replace hNB := rng_bel hNB hb2; replace hPA := rng_bel hPA hb2; replace hPB := rng_bel hPB hb2; replace kA := keep hb2 kA; replace kB := keep hb2 kB; replace sA := keep hb2 sA; replace sB := keep hb2 sB; replace BB := bl_trans BB hb2) | go_values | go_skip | go_guarded | go_step | go_upon | go_back | dsimp only)
  go_ret
  exact ⟨by first | rfl | simp, BB⟩

end Go.Proofs.Ytfohggiehbplkaa
