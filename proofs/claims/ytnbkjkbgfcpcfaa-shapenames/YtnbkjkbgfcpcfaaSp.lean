/-
  What each function of package poly answers, and what the reference of its chapter answers: one contract a function, for every float: the answer stands in the relation of its formula to what was given; of the memory that was there nothing has turned.
-/
import Derived.Test.YtnbkjkbgfcpcfaaVec
import Derived.Test.YtnbkjkbgfcpcfaaSd
import Derived.Test.YtnbkjkbgfcpcfaaFprog
import Derived.Test.YtnbkjkbgfcpcfaaPd
import Derived.Below
import Derived.Laws.MakeOwn
import Derived.WalkKit
import Derived.WalkLawsBesides
import Derived.WalkSpells
import Derived.ProofKit
import Derived.OpenShut
import Derived.Deep.RegionHeld3
namespace Go.Proofs.Ytnbkjkbgfcpcfaa
open Go.ChangeShapes Go.WideShapes Go.ChangeAt Go.RowKit
set_option linter.unusedVariables false
set_option linter.unusedSimpArgs false


theorem gTo_d {n X Y x y u v : Nat} (w : World) (h1 : Bd n X) (h2 : Bd n Y) (h3 : Bd n x) (h4 : Bd n y) (h5 : Bd n u) (h6 : Bd n v) (hn : n ≤ 200) : Calls Try.prog 47 #[.agg #[.float .f64 X, .float .f64 Y, .complex .f64 x y], .agg #[.float .f64 u, .float .f64 v]] w fun e w' => e = .returned (.agg #[.float .f64 (toX X x y u v), .float .f64 (toY Y x y u v)]) ∧ Bel w w' :=
  (gTo_any X Y x y u v w).mono fun e w' ⟨tx, ty, h, he, hb⟩ => ⟨by obtain ⟨e1, e2⟩ := toR_d h1 h2 h3 h4 h5 h6 hn h; rw [he, e1, e2], hb⟩
theorem fchk_d {X Y x y : Nat} (w : World) (h1 : inB X Y = true) (h3 : Bd 2 x) (h4 : Bd 2 y) (hc : chk (dtK x y x y) = true) : Calls Try.prog 46 #[.agg #[.float .f64 X, .float .f64 Y, .complex .f64 x y]] w fun e w' => e = .returned (.int .i64 0) ∧ Bel w w' := by
  have hw : (withinK .f64 X 4787326403894837248 && withinK .f64 Y 4787326403894837248) = true := h1
  go_enter Try.func46, Try.ntmps46
  go_wp2_with (first | (go_at_call 49; refine (vWithin_any _ _ _ _).mono ?_; rintro e w1 ⟨rfl, hb⟩; rw [hw]; have Kc := keep hb (a := ⟨w.heap.size, 2, none⟩) (v := .complex .f64 x y) (by go_keep); have B1 := hb) | (go_at_call 98; refine (tCheck_any _ _ _).mono ?_; rintro e w2 ⟨s, hd, rfl, hb⟩; rw [dotR_d h3 h4 h3 h4 (by decide) hd, hc]; replace B1 := bl_trans B1 hb))
  go_ret
  exact ⟨rfl, bl_trans (bl_alloc (bl_refl w) _ _) B1⟩

/-- with: where the shape may be -/
theorem with7 (V V0 : Value) (n : Nat) (xs ys : Nat → Nat) (k : Int) (r : Nat) (w : World) (h : AnyS w V n xs ys) (hz : shE k r xs ys n = 0) : Calls Try.prog 48 #[.agg #[.int .u8 k, .float .f64 r, V0], V] w fun e w' => e = .returned (.tuple #[.agg #[.int .u8 k, .float .f64 r, V], .int .i64 0]) ∧ Bel w w' := by
  obtain ⟨a, c, rfl, _⟩ := id h
  have z0_0 : (w.alloc (.cells #[.int .u8 k, .float .f64 r, .slice a n c] 33)).cell? ⟨w.heap.size, 0, none⟩ = some (.int .u8 k) := by rw [World.cell?_alloc_new]; rfl
  replace z0_0 := up_alloc (o := .cells #[.int .u8 0, .float .f64 0, .slice none 0 0] 33) z0_0
  have z0_1 : (w.alloc (.cells #[.int .u8 k, .float .f64 r, .slice a n c] 33)).cell? ⟨w.heap.size, 1, none⟩ = some (.float .f64 r) := by rw [World.cell?_alloc_new]; rfl
  replace z0_1 := up_alloc (o := .cells #[.int .u8 0, .float .f64 0, .slice none 0 0] 33) z0_1
  have z0_2 : (w.alloc (.cells #[.int .u8 k, .float .f64 r, .slice a n c] 33)).cell? ⟨w.heap.size, 2, none⟩ = some (.slice a n c) := by rw [World.cell?_alloc_new]; rfl
  replace z0_2 := up_alloc (o := .cells #[.int .u8 0, .float .f64 0, .slice none 0 0] 33) z0_2
  have z1_0 : ((w.alloc (.cells #[.int .u8 k, .float .f64 r, .slice a n c] 33)).alloc (.cells #[.int .u8 0, .float .f64 0, .slice none 0 0] 33)).cell? ⟨w.heap.size + 1, 0, none⟩ = some (.int .u8 0) := by rw [← (show (w.alloc (.cells #[.int .u8 k, .float .f64 r, .slice a n c] 33)).heap.size = w.heap.size + 1 by simp only [World.size_alloc]), World.cell?_alloc_new]; rfl
  have z1_1 : ((w.alloc (.cells #[.int .u8 k, .float .f64 r, .slice a n c] 33)).alloc (.cells #[.int .u8 0, .float .f64 0, .slice none 0 0] 33)).cell? ⟨w.heap.size + 1, 1, none⟩ = some (.float .f64 0) := by rw [← (show (w.alloc (.cells #[.int .u8 k, .float .f64 r, .slice a n c] 33)).heap.size = w.heap.size + 1 by simp only [World.size_alloc]), World.cell?_alloc_new]; rfl
  have z1_2 : ((w.alloc (.cells #[.int .u8 k, .float .f64 r, .slice a n c] 33)).alloc (.cells #[.int .u8 0, .float .f64 0, .slice none 0 0] 33)).cell? ⟨w.heap.size + 1, 2, none⟩ = some (.slice none 0 0) := by rw [← (show (w.alloc (.cells #[.int .u8 k, .float .f64 r, .slice a n c] 33)).heap.size = w.heap.size + 1 by simp only [World.size_alloc]), World.cell?_alloc_new]; rfl
  have B0 : Bel w ((w.alloc (.cells #[.int .u8 k, .float .f64 r, .slice a n c] 33)).alloc (.cells #[.int .u8 0, .float .f64 0, .slice none 0 0] 33)) := bl_alloc (bl_alloc (bl_refl w) _ _) _ _
  have lr : w.heap.size ≤ w.heap.size + 1 := Nat.le_succ _
  have S0 := z0_0
  have S1 := z0_1
  have S2 := z0_2
  have R0 := z1_0
  have R1 := z1_1
  have R2 := z1_2
  have Bc := B0
  have h1 := h.bel Bc
  go_enter Try.func48, Try.ntmps48
  go_wp2_with (first | (go_at_call 16; refine (check_any _ _ xs ys k r _ h1).mono ?_; rintro e w1 ⟨rfl, hb⟩; rw [hz]; replace S0 := keep hb S0; replace S1 := keep hb S1; replace S2 := keep hb S2; replace R0 := keep hb R0; replace R1 := keep hb R1; replace R2 := keep hb R2; replace Bc := bl_trans Bc hb; have Z1 := fun o => (Bc.2 ⟨w.heap.size + 1, o, none⟩).trans (fresh_frozen lr)))
  obtain ⟨F0, F1, F2⟩ := set3 (p := .int .u8 k) (q := .float .f64 r) (r := .slice a n c) R0 R1 R2
  refine bodyPost_ret (v := .tuple #[.agg #[.int .u8 k, .float .f64 r, .slice a n c], .int .i64 0]) (by simp [F0, F1, F2, results, Try.results48, go_sem] <;> (first | exact ⟨⟨rfl, rfl⟩, rfl⟩ | exact ⟨rfl, rfl, rfl, rfl⟩ | exact ⟨rfl, rfl, rfl⟩ | exact ⟨rfl, rfl⟩ | rfl)) rfl ⟨rfl, bl_set (bl_set (bl_set Bc lr) lr) lr⟩

set_option maxHeartbeats 4000000 in
theorem put_ok (V : Value) (n : Nat) (xs ys : Nat → Nat) (k : Int) (r : Nat) (X Y x y : Nat) (w : World) (h : AnyS w V n xs ys) (hr : okK .f64 r) (hz : shE k r xs ys n = 0) (hX : inB X Y = true) (oX : okK .f64 X) (oY : okK .f64 Y) (h3 : Bd 2 x) (h4 : Bd 2 y) (hc : chk (dtK x y x y) = true) (hz2 : shE k r (fun i => toX X x y (xs i) (ys i)) (fun i => toY Y x y (xs i) (ys i)) n = 0) :
    Calls Try.prog 18 #[.agg #[.int .u8 k, .float .f64 r, V], .agg #[.float .f64 X, .float .f64 Y, .complex .f64 x y]] w fun e w' => ∃ g, e = .returned (.tuple #[.agg #[.int .u8 k, .float .f64 r, .slice (some ⟨g, 0, none⟩) n n], .int .i64 0]) ∧ w.heap.size ≤ g ∧ Sl w' g 0 n (fun i => toX X x y (xs i) (ys i)) (fun i => toY Y x y (xs i) (ys i)) ∧ Bel w w' := by
  obtain ⟨a, c, rfl, hcc, hm, hrn, o, hA⟩ := id h
  obtain ⟨g, hn1, hn8, hrb⟩ := sh_gd o hr hz
  obtain ⟨bX, bY⟩ := in_bd oX oY hX
  obtain ⟨hp, b, off, rfl, hsl⟩ : 0 < n ∧ ∃ b off, a = some ⟨b, off, none⟩ ∧ Sl w b off n xs ys := by
    rcases hA with e | e
    · omega
    · exact e
  have hb0 := hsl.lt hp
  have hmk := make_vec n (by omega)
  have z0_0 : (w.alloc (.cells #[.int .u8 k, .float .f64 r, .slice (some ⟨b, off, none⟩) n c] 33)).cell? ⟨w.heap.size, 0, none⟩ = some (.int .u8 k) := by rw [World.cell?_alloc_new]; rfl
  replace z0_0 := up_alloc (o := .cells #[.float .f64 X, .float .f64 Y, .complex .f64 x y] 43) z0_0
  replace z0_0 := up_alloc (o := .cells #[.int .u8 0, .float .f64 0, .slice none 0 0] 33) z0_0
  have z0_1 : (w.alloc (.cells #[.int .u8 k, .float .f64 r, .slice (some ⟨b, off, none⟩) n c] 33)).cell? ⟨w.heap.size, 1, none⟩ = some (.float .f64 r) := by rw [World.cell?_alloc_new]; rfl
  replace z0_1 := up_alloc (o := .cells #[.float .f64 X, .float .f64 Y, .complex .f64 x y] 43) z0_1
  replace z0_1 := up_alloc (o := .cells #[.int .u8 0, .float .f64 0, .slice none 0 0] 33) z0_1
  have z0_2 : (w.alloc (.cells #[.int .u8 k, .float .f64 r, .slice (some ⟨b, off, none⟩) n c] 33)).cell? ⟨w.heap.size, 2, none⟩ = some (.slice (some ⟨b, off, none⟩) n c) := by rw [World.cell?_alloc_new]; rfl
  replace z0_2 := up_alloc (o := .cells #[.float .f64 X, .float .f64 Y, .complex .f64 x y] 43) z0_2
  replace z0_2 := up_alloc (o := .cells #[.int .u8 0, .float .f64 0, .slice none 0 0] 33) z0_2
  have z1_0 : ((w.alloc (.cells #[.int .u8 k, .float .f64 r, .slice (some ⟨b, off, none⟩) n c] 33)).alloc (.cells #[.float .f64 X, .float .f64 Y, .complex .f64 x y] 43)).cell? ⟨w.heap.size + 1, 0, none⟩ = some (.float .f64 X) := by rw [← (show (w.alloc (.cells #[.int .u8 k, .float .f64 r, .slice (some ⟨b, off, none⟩) n c] 33)).heap.size = w.heap.size + 1 by simp only [World.size_alloc]), World.cell?_alloc_new]; rfl
  replace z1_0 := up_alloc (o := .cells #[.int .u8 0, .float .f64 0, .slice none 0 0] 33) z1_0
  have z1_1 : ((w.alloc (.cells #[.int .u8 k, .float .f64 r, .slice (some ⟨b, off, none⟩) n c] 33)).alloc (.cells #[.float .f64 X, .float .f64 Y, .complex .f64 x y] 43)).cell? ⟨w.heap.size + 1, 1, none⟩ = some (.float .f64 Y) := by rw [← (show (w.alloc (.cells #[.int .u8 k, .float .f64 r, .slice (some ⟨b, off, none⟩) n c] 33)).heap.size = w.heap.size + 1 by simp only [World.size_alloc]), World.cell?_alloc_new]; rfl
  replace z1_1 := up_alloc (o := .cells #[.int .u8 0, .float .f64 0, .slice none 0 0] 33) z1_1
  have z1_2 : ((w.alloc (.cells #[.int .u8 k, .float .f64 r, .slice (some ⟨b, off, none⟩) n c] 33)).alloc (.cells #[.float .f64 X, .float .f64 Y, .complex .f64 x y] 43)).cell? ⟨w.heap.size + 1, 2, none⟩ = some (.complex .f64 x y) := by rw [← (show (w.alloc (.cells #[.int .u8 k, .float .f64 r, .slice (some ⟨b, off, none⟩) n c] 33)).heap.size = w.heap.size + 1 by simp only [World.size_alloc]), World.cell?_alloc_new]; rfl
  replace z1_2 := up_alloc (o := .cells #[.int .u8 0, .float .f64 0, .slice none 0 0] 33) z1_2
  have z2_0 : (((w.alloc (.cells #[.int .u8 k, .float .f64 r, .slice (some ⟨b, off, none⟩) n c] 33)).alloc (.cells #[.float .f64 X, .float .f64 Y, .complex .f64 x y] 43)).alloc (.cells #[.int .u8 0, .float .f64 0, .slice none 0 0] 33)).cell? ⟨w.heap.size + 1 + 1, 0, none⟩ = some (.int .u8 0) := by rw [← (show ((w.alloc (.cells #[.int .u8 k, .float .f64 r, .slice (some ⟨b, off, none⟩) n c] 33)).alloc (.cells #[.float .f64 X, .float .f64 Y, .complex .f64 x y] 43)).heap.size = w.heap.size + 1 + 1 by simp only [World.size_alloc]), World.cell?_alloc_new]; rfl
  have z2_1 : (((w.alloc (.cells #[.int .u8 k, .float .f64 r, .slice (some ⟨b, off, none⟩) n c] 33)).alloc (.cells #[.float .f64 X, .float .f64 Y, .complex .f64 x y] 43)).alloc (.cells #[.int .u8 0, .float .f64 0, .slice none 0 0] 33)).cell? ⟨w.heap.size + 1 + 1, 1, none⟩ = some (.float .f64 0) := by rw [← (show ((w.alloc (.cells #[.int .u8 k, .float .f64 r, .slice (some ⟨b, off, none⟩) n c] 33)).alloc (.cells #[.float .f64 X, .float .f64 Y, .complex .f64 x y] 43)).heap.size = w.heap.size + 1 + 1 by simp only [World.size_alloc]), World.cell?_alloc_new]; rfl
  have z2_2 : (((w.alloc (.cells #[.int .u8 k, .float .f64 r, .slice (some ⟨b, off, none⟩) n c] 33)).alloc (.cells #[.float .f64 X, .float .f64 Y, .complex .f64 x y] 43)).alloc (.cells #[.int .u8 0, .float .f64 0, .slice none 0 0] 33)).cell? ⟨w.heap.size + 1 + 1, 2, none⟩ = some (.slice none 0 0) := by rw [← (show ((w.alloc (.cells #[.int .u8 k, .float .f64 r, .slice (some ⟨b, off, none⟩) n c] 33)).alloc (.cells #[.float .f64 X, .float .f64 Y, .complex .f64 x y] 43)).heap.size = w.heap.size + 1 + 1 by simp only [World.size_alloc]), World.cell?_alloc_new]; rfl
  have B0 : Bel w (((w.alloc (.cells #[.int .u8 k, .float .f64 r, .slice (some ⟨b, off, none⟩) n c] 33)).alloc (.cells #[.float .f64 X, .float .f64 Y, .complex .f64 x y] 43)).alloc (.cells #[.int .u8 0, .float .f64 0, .slice none 0 0] 33)) := bl_alloc (bl_alloc (bl_alloc (bl_refl w) _ _) _ _) _ _
  have h1 := h.bel B0
  have lr : w.heap.size ≤ w.heap.size + 1 + 1 := by omega
  go_enter Try.func18, Try.ntmps18
  go_wp2_with (first | (go_at_call 16; refine (check_any _ _ xs ys k r _ h1).mono ?_; rintro e wc ⟨rfl, hb⟩; rw [hz]; have S0 := keep hb z0_0; have S1 := keep hb z0_1; have S2 := keep hb z0_2; have G0 := keep hb z1_0; have G1 := keep hb z1_1; have G2 := keep hb z1_2; have R0 := keep hb z2_0; have R1 := keep hb z2_1; have R2 := keep hb z2_2; have Bc := bl_trans B0 hb; have hbc := hb.size; simp only [World.size_alloc] at hbc) | (go_at_call 46; refine (fchk_d _ hX h3 h4 hc).mono ?_; rintro e wd ⟨rfl, hb⟩; replace S0 := keep hb S0; replace S1 := keep hb S1; replace S2 := keep hb S2; replace G0 := keep hb G0; replace G1 := keep hb G1; replace G2 := keep hb G2; replace R0 := keep hb R0; replace R1 := keep hb R1; replace R2 := keep hb R2; replace Bc := bl_trans Bc hb; have hbd := hb.size; have S2' := up_alloc (o := .cells (madeCells #[.float .f64 0, .float .f64 0] (n * 2)) 36) S2))
  have hM := made_sl wd 36 n
  have BM := bl_alloc Bc (madeCells #[.float .f64 0, .float .f64 0] (n * 2)) 36
  have lg : w.heap.size + 1 + 1 + 1 ≤ wd.heap.size := by omega
  replace S0 := up_alloc (o := .cells (madeCells #[.float .f64 0, .float .f64 0] (n * 2)) 36) S0
  replace S1 := up_alloc (o := .cells (madeCells #[.float .f64 0, .float .f64 0] (n * 2)) 36) S1
  replace S2 := up_alloc (o := .cells (madeCells #[.float .f64 0, .float .f64 0] (n * 2)) 36) S2
  replace G0 := up_alloc (o := .cells (madeCells #[.float .f64 0, .float .f64 0] (n * 2)) 36) G0
  replace G1 := up_alloc (o := .cells (madeCells #[.float .f64 0, .float .f64 0] (n * 2)) 36) G1
  replace G2 := up_alloc (o := .cells (madeCells #[.float .f64 0, .float .f64 0] (n * 2)) 36) G2
  replace R0 := up_alloc (o := .cells (madeCells #[.float .f64 0, .float .f64 0] (n * 2)) 36) R0
  replace R1 := up_alloc (o := .cells (madeCells #[.float .f64 0, .float .f64 0] (n * 2)) 36) R1
  replace R2 := up_alloc (o := .cells (madeCells #[.float .f64 0, .float .f64 0] (n * 2)) 36) R2
  obtain ⟨gb, hgb⟩ : ∃ gb, wd.heap.size = gb := ⟨_, rfl⟩
  rw [hgb] at hM lg ⊢
  have lw : w.heap.size ≤ gb := by omega
  go_loopw [30] (fun i' wr => ∃ j : Nat, j ≤ n ∧ i' = .int .i64 j ∧ Bel w wr ∧ Sl wr gb 0 n (fun i => if i < j then toX X x y (xs i) (ys i) else 0) (fun i => if i < j then toY Y x y (xs i) (ys i) else 0) ∧ wr.cell? ⟨w.heap.size, 0, none⟩ = some (.int .u8 k) ∧ wr.cell? ⟨w.heap.size, 1, none⟩ = some (.float .f64 r) ∧ wr.cell? ⟨w.heap.size, 2, none⟩ = some (.slice (some ⟨b, off, none⟩) n c) ∧ wr.cell? ⟨w.heap.size + 1, 0, none⟩ = some (.float .f64 X) ∧ wr.cell? ⟨w.heap.size + 1, 1, none⟩ = some (.float .f64 Y) ∧ wr.cell? ⟨w.heap.size + 1, 2, none⟩ = some (.complex .f64 x y) ∧ wr.cell? ⟨w.heap.size + 1 + 1, 0, none⟩ = some (.int .u8 0) ∧ wr.cell? ⟨w.heap.size + 1 + 1, 1, none⟩ = some (.float .f64 0) ∧ wr.cell? ⟨w.heap.size + 1 + 1, 2, none⟩ = some (.slice none 0 0)) (fun i' _ => n - (intOf i').toNat)
  case atStart => exact ⟨0, by omega, rfl, BM, hM.eq (fun i _ => by simp) (fun i _ => by simp), S0, S1, S2, G0, G1, G2, R0, R1, R2⟩
  case round =>
    clear S0 S1 S2 G0 G1 G2 R0 R1 R2 BM Bc hM
    obtain ⟨j, hj, rfl, hB, hR, S0, S1, S2, G0, G1, G2, R0, R1, R2⟩ := hrel
    by_cases hlt : j < n
    · have k1 : (j : Int) < (n : Int) := by omega
      obtain ⟨g1, g2⟩ := g j hlt
      obtain ⟨x0, x1⟩ := (hsl.bel hB) j hlt
      have hbb : b < wr.heap.size := Nat.lt_of_lt_of_le hb0 hB.size
      have fr : ∀ o, wr.frozen? ⟨gb, o, none⟩ = false := fun o => (hB.2 _).trans (fresh_frozen lw)
      have BA := bl_alloc hB #[.float .f64 (xs j), .float .f64 (ys j)] 36
      have hR2 := hR.bel (bl_alloc (bl_refl wr) #[.float .f64 (xs j), .float .f64 (ys j)] 36)
      have S0' := up_alloc (o := .cells #[.float .f64 (xs j), .float .f64 (ys j)] 36) S0
      have S1' := up_alloc (o := .cells #[.float .f64 (xs j), .float .f64 (ys j)] 36) S1
      have S2' := up_alloc (o := .cells #[.float .f64 (xs j), .float .f64 (ys j)] 36) S2
      have G0' := up_alloc (o := .cells #[.float .f64 (xs j), .float .f64 (ys j)] 36) G0
      have G1' := up_alloc (o := .cells #[.float .f64 (xs j), .float .f64 (ys j)] 36) G1
      have G2' := up_alloc (o := .cells #[.float .f64 (xs j), .float .f64 (ys j)] 36) G2
      have R0' := up_alloc (o := .cells #[.float .f64 (xs j), .float .f64 (ys j)] 36) R0
      have R1' := up_alloc (o := .cells #[.float .f64 (xs j), .float .f64 (ys j)] 36) R1
      have R2' := up_alloc (o := .cells #[.float .f64 (xs j), .float .f64 (ys j)] 36) R2
      go_wp2_with (first | (go_at_call 47; refine (gTo_d (n := 40) _ bX bY (wbd h3 40 (by decide)) (wbd h4 40 (by decide)) g1 g2 (by decide)).mono ?_; rintro e wt ⟨rfl, hb⟩; have hR3 := hR2.bel hb; have Bt := bl_trans BA hb; obtain ⟨K0, K1⟩ := hR3 j hlt; simp only [Nat.zero_add] at K0 K1; have FQ := fun o => (Bt.2 ⟨gb, o, none⟩).trans (fresh_frozen lw); have lq := World.block_lt_of_cell? _ _ K0; simp only at lq))
      have hN := hR3.set hlt (toX X x y (xs j) (ys j)) (toY Y x y (xs j) (ys j))
      simp only [Nat.zero_add] at hN
      have n0 : gb ≠ w.heap.size := by omega
      have n1 : gb ≠ w.heap.size + 1 := by omega
      have n2 : gb ≠ w.heap.size + 1 + 1 := by omega
      refine ⟨⟨j + 1, by omega, by go_num, bl_set (bl_set Bt lw) lw, hN.eq (fun i hi => ?_) (fun i hi => ?_), up_set2 n0 (up_set2 n0 (keep hb S0')), up_set2 n0 (up_set2 n0 (keep hb S1')), up_set2 n0 (up_set2 n0 (keep hb S2')), up_set2 n1 (up_set2 n1 (keep hb G0')), up_set2 n1 (up_set2 n1 (keep hb G1')), up_set2 n1 (up_set2 n1 (keep hb G2')), up_set2 n2 (up_set2 n2 (keep hb R0')), up_set2 n2 (up_set2 n2 (keep hb R1')), up_set2 n2 (up_set2 n2 (keep hb R2'))⟩, by simp [intOf]; omega⟩
      · by_cases e : i = j
        · subst e; rw [upd_same, if_pos (by omega)]
        · rw [upd_other e]
          by_cases h : i < j
          · rw [if_pos h, if_pos (by omega)]
          · rw [if_neg h, if_neg (by omega)]
      · by_cases e : i = j
        · subst e; rw [upd_same, if_pos (by omega)]
        · rw [upd_other e]
          by_cases h : i < j
          · rw [if_pos h, if_pos (by omega)]
          · rw [if_neg h, if_neg (by omega)]
    · have hkn : j = n := by omega
      subst hkn
      have hF : Sl wr gb 0 j (fun i => toX X x y (xs i) (ys i)) (fun i => toY Y x y (xs i) (ys i)) := hR.eq (fun i hi => if_pos hi) (fun i hi => if_pos hi)
      have hAny : AnyS wr (.slice (some ⟨gb, 0, none⟩) j j) j (fun i => toX X x y (xs i) (ys i)) (fun i => toY Y x y (xs i) (ys i)) := ⟨_, _, rfl, Nat.le_refl _, hm, hrn, fun i hi => to_ok (n := 40) bX bY (wbd h3 40 (by decide)) (wbd h4 40 (by decide)) (g i hi).1 (g i hi).2 (by decide), .inr ⟨hp, gb, 0, rfl, hF⟩⟩
      go_wp2_with (first | (go_at_call 48; refine (with7 _ _ _ _ _ k r _ hAny hz2).mono ?_; rintro e ww ⟨rfl, hb⟩; replace R0 := keep hb R0; replace R1 := keep hb R1; replace R2 := keep hb R2; have Bt := bl_trans hB hb; have Z1 := fun o => (Bt.2 ⟨w.heap.size + 1 + 1, o, none⟩).trans (fresh_frozen lr)))
      obtain ⟨F0, F1, F2⟩ := set3 (p := .int .u8 k) (q := .float .f64 r) (r := .slice (some ⟨gb, 0, none⟩) j j) R0 R1 R2
      have ng : w.heap.size + 1 + 1 ≠ gb := by omega
      refine bodyPost_ret (v := .tuple #[.agg #[.int .u8 k, .float .f64 r, .slice (some ⟨gb, 0, none⟩) j j], .int .i64 0]) (by simp [F0, F1, F2, results, Try.results18, go_sem] <;> (first | exact ⟨⟨rfl, rfl⟩, rfl⟩ | exact ⟨rfl, rfl, rfl, rfl⟩ | exact ⟨rfl, rfl, rfl⟩ | exact ⟨rfl, rfl⟩ | rfl)) rfl ⟨gb, rfl, lw, (((hF.bel hb).far ng).far ng).far ng, bl_set (bl_set (bl_set Bt lr) lr) lr⟩

end Go.Proofs.Ytnbkjkbgfcpcfaa
