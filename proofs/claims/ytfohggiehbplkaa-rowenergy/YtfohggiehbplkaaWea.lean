/-
  What each function of package poly answers, and what the reference of its chapter answers: one contract a function, for every float: the answer stands in the relation of its formula to what was given; of the memory that was there nothing has turned.
-/
import Derived.Test.YtfohggiehbplkaaVec
import Derived.Test.YtfohggiehbplkaaWrb
import Derived.Test.YtfohggiehbplkaaWny
import Derived.Below
import Derived.WalkKit
import Derived.WalkLawsBesides
import Derived.WalkSpells
import Derived.ProofKit
import Derived.OpenShut
import Derived.Deep.RegionHeld3
namespace Go.Proofs.Ytfohggiehbplkaa
open Go.ChangeShapes Go.WideShapes Go.ChangeAt Go.RowKit
set_option linter.unusedVariables false
set_option linter.unusedSimpArgs false


theorem run_quo_kq (t : TypeId) {n x m : Nat} (w : World) (hm : Us m) (m1 : 1 ≤ rv m * 2 ^ 40) (bx : Bd n x) (hn : n ≤ 700) : (binOp .quo t (.float .f64 x) (.float .f64 (oF .mul 4611686018427387904 m))).run Try.prog w = .ok (.float .f64 (kq m x)) w := by
  obtain ⟨bt, et, lt⟩ := two_m hm m1
  have m0 : 0 < rv m := by grind
  have tp : 0 ≤ rv (oF .mul c2w m) := by grind
  have hav : av (oF .mul c2w m) = rv (oF .mul c2w m) := by rw [← ab_rv, ab_pos tp]
  have k1 : 1 ≤ av (oF .mul c2w m) * 2 ^ 40 := by
    rw [hav]
    have := Rat.mul_le_mul_of_nonneg_right lt (show (0 : Rat) ≤ 2 ^ 40 by decide +kernel)
    grind
  have y0 : mg (oF .mul c2w m) ≠ 0 := by
    intro e
    have : av (oF .mul c2w m) = 0 := by unfold av; rw [e]; decide +kernel
    rw [hav] at this
    grind
  obtain ⟨bq, rq⟩ := bd_quo bx bt k1 (by omega)
  have eq : kq m x = Dv .quo x (oF .mul c2w m) := oF_dv (some_quo bx.2.1 bt.2.1 y0) bq
  rw [eq]
  exact run_quo_dv _ _ _ _ _ bx.2.1 bt.2.1 y0
theorem sq_b {x y : Nat} (w : World) (hx : Bd 340 x) (hy : Bd 340 y) : Calls Try.prog 65 #[.agg #[.float .f64 x, .float .f64 y]] w fun e w' => e = .returned (.float .f64 (oF .add (oF .mul x x) (oF .mul y y))) ∧ Bel w w' :=
  (vSquare_n w (isP_r hx.1 hy.1)).mono fun e w' ⟨r, hr, he, hb⟩ => by
    refine ⟨?_, hb⟩
    rw [he]
    have e1 : dtF (nP (x, y)) (nP (x, y)) = oF .add (oF .mul x x) (oF .mul y y) := by
      unfold dtF nP
      simp only
      rw [bd_bit hx, bd_bit hy]
    rw [e1] at hr
    rw [bd_word hr (sq2_num hx hy (by omega)).1]
/-- the sum behind a mass -/
def k1W (m x y : Nat) : Nat := oF .add 0 (kq m (oF .add (oF .mul x x) (oF .mul y y)))
theorem k1_bd {m x y : Nat} (hm : Us m) (m1 : 1 ≤ rv m * 2 ^ 40) (bx : Bd 340 x) (by_ : Bd 340 y) : Bd 726 (kq m (oF .add (oF .mul x x) (oF .mul y y))) ∧ Bd 728 (k1W m x y) := by
  obtain ⟨b2, n2⟩ := sq2_num bx by_ (by omega)
  have x2 := sq_nn9 (rv x)
  have y2 := sq_nn9 (rv y)
  have mn : rv m ≠ 0 := by intro e; rw [e] at m1; exact absurd m1 (by decide +kernel)
  have m0 : 0 ≤ rv m := by grind
  have t1 := te_nn (v := x) m0
  have t2 := te_nn (v := y) m0
  have c : etR * 2 ^ 60 ≤ epR := by decide +kernel
  have e0 := Rat.mul_nonneg ep_pos (show 0 ≤ TE m x + TE m y by grind)
  have b3 := (kq_num (T := TE m x + TE m y) (M := TE m x + TE m y + 1) hm m1 b2 (by omega) n2 (by rw [te_mul (v := x) mn, te_mul (v := y) mn]; grind) (by grind) (by grind) (by grind)).1
  exact ⟨b3, (add_oB (zero_bd9 726) b3 (by omega)).1⟩
theorem k2_bd {m s : Nat} (hm : Us m) (m1 : 1 ≤ rv m * 2 ^ 40) (bs : Bd 340 s) : Bd 728 (kq m (oF .mul s s)) := by
  obtain ⟨b2, n2⟩ := sq1_num bs (by omega)
  have s2 := sq_nn9 (rv s)
  have es2 := Rat.mul_nonneg ep_pos s2
  have mn : rv m ≠ 0 := by intro e; rw [e] at m1; exact absurd m1 (by decide +kernel)
  have m0 : 0 ≤ rv m := by grind
  have t1 := te_nn (v := s) m0
  have c : etR * 2 ^ 60 ≤ epR := by decide +kernel
  have e0 := Rat.mul_nonneg ep_pos t1
  exact bd_mono (kq_num (T := TE m s) (M := TE m s + 1) hm m1 b2 (by omega) (Rat.le_trans n2 (by have := et_pos; grind)) (te_mul mn) t1 (by grind) (by grind)).1 (by omega)
set_option maxRecDepth 100000 in
set_option maxHeartbeats 4000000 in
theorem kin_w (q : SD) (w : World) (hm : Us q.sm) (hi : Us q.si) (m0 : 0 ≤ rv q.sm) (i0 : 0 ≤ rv q.si) (bx : Bd 340 q.sx) (by_ : Bd 340 q.sy) (bs : Bd 340 q.ss) : Calls Try.prog 23 #[.agg #[.float .f64 q.sm, .float .f64 q.si, .float .f64 q.sx, .float .f64 q.sy, .float .f64 q.ss]] w fun e w' => e = .returned (.float .f64 (kiW q.sm q.si q.sx q.sy q.ss)) ∧ Bel w w' := by
  have c1 := cmp_gt .f64
  have c2 := cmp_lt .f64
  have k0 : (w.alloc (.cells #[.float .f64 q.sm, .float .f64 q.si, .float .f64 q.sx, .float .f64 q.sy, .float .f64 q.ss] 45)).cell? ⟨w.heap.size, 0, none⟩ = some (.float .f64 q.sm) := by have h := (rng_new w [.float .f64 q.sm, .float .f64 q.si, .float .f64 q.sx, .float .f64 q.sy, .float .f64 q.ss] 45) 0 _ rfl; rwa [Nat.zero_add] at h
  have k1 : (w.alloc (.cells #[.float .f64 q.sm, .float .f64 q.si, .float .f64 q.sx, .float .f64 q.sy, .float .f64 q.ss] 45)).cell? ⟨w.heap.size, 1, none⟩ = some (.float .f64 q.si) := by have h := (rng_new w [.float .f64 q.sm, .float .f64 q.si, .float .f64 q.sx, .float .f64 q.sy, .float .f64 q.ss] 45) 1 _ rfl; rwa [Nat.zero_add] at h
  have k2 : (w.alloc (.cells #[.float .f64 q.sm, .float .f64 q.si, .float .f64 q.sx, .float .f64 q.sy, .float .f64 q.ss] 45)).cell? ⟨w.heap.size, 2, none⟩ = some (.float .f64 q.sx) := by have h := (rng_new w [.float .f64 q.sm, .float .f64 q.si, .float .f64 q.sx, .float .f64 q.sy, .float .f64 q.ss] 45) 2 _ rfl; rwa [Nat.zero_add] at h
  have k3 : (w.alloc (.cells #[.float .f64 q.sm, .float .f64 q.si, .float .f64 q.sx, .float .f64 q.sy, .float .f64 q.ss] 45)).cell? ⟨w.heap.size, 3, none⟩ = some (.float .f64 q.sy) := by have h := (rng_new w [.float .f64 q.sm, .float .f64 q.si, .float .f64 q.sx, .float .f64 q.sy, .float .f64 q.ss] 45) 3 _ rfl; rwa [Nat.zero_add] at h
  have k4 : (w.alloc (.cells #[.float .f64 q.sm, .float .f64 q.si, .float .f64 q.sx, .float .f64 q.sy, .float .f64 q.ss] 45)).cell? ⟨w.heap.size, 4, none⟩ = some (.float .f64 q.ss) := by have h := (rng_new w [.float .f64 q.sm, .float .f64 q.si, .float .f64 q.sx, .float .f64 q.sy, .float .f64 q.ss] 45) 4 _ rfl; rwa [Nat.zero_add] at h
  have B0 : Bel w (w.alloc (.cells #[.float .f64 q.sm, .float .f64 q.si, .float .f64 q.sx, .float .f64 q.sy, .float .f64 q.ss] 45)) := bl_alloc (bl_refl _) _ _
  have om := hm.ok
  have oi := hi.ok
  have qm1 := fun W => run_mul_o 24 W bs bs (by omega)
  have qm2 := fun W => run_mul_o 24 W c2_bd hm.bd (by omega)
  have qm3 := fun W => run_mul_o 24 W c2_bd hi.bd (by omega)
  unfold c2w at qm2 qm3
  cases h1 : ltK .f64 0 q.sm
  · cases h2 : ltK .f64 0 q.si
    · go_enter Try.func23, Try.ntmps23
      go_wp2
      go_ret
      exact ⟨by unfold kiW; rw [h1, h2]; rfl, B0⟩
    · obtain ⟨i1, _⟩ := lt_pos9 hi i0 h2
      have b2 := (sq1_num bs (by omega)).1
      have qd := fun W => run_quo_kq 24 W hi i1 b2 (by omega)
      have qa := fun W => run_add_o 24 W (zero_bd9 728) (k2_bd hi i1 bs) (by omega)
      go_enter Try.func23, Try.ntmps23
      go_wp2
      go_ret
      exact ⟨by unfold kiW; rw [h1, h2]; rfl, B0⟩
  · obtain ⟨m1, _⟩ := lt_pos9 hm m0 h1
    have b1 := (sq2_num bx by_ (by omega)).1
    obtain ⟨b3, b4⟩ := k1_bd hm m1 bx by_
    have qd1 := fun W => run_quo_kq 24 W hm m1 b1 (by omega)
    have qa1 := fun W => run_add_o 24 W (zero_bd9 726) b3 (by omega)
    cases h2 : ltK .f64 0 q.si
    · go_enter Try.func23, Try.ntmps23
      go_wp2
      have BN := belBy_some (w.alloc (.cells #[.float .f64 q.sm, .float .f64 q.si, .float .f64 q.sx, .float .f64 q.sy, .float .f64 q.ss] 45))
      replace k0 := belBy_cell (W := (w.alloc (.cells #[.float .f64 q.sm, .float .f64 q.si, .float .f64 q.sx, .float .f64 q.sy, .float .f64 q.ss] 45))) k0
      replace k1 := belBy_cell (W := (w.alloc (.cells #[.float .f64 q.sm, .float .f64 q.si, .float .f64 q.sx, .float .f64 q.sy, .float .f64 q.ss] 45))) k1
      replace k2 := belBy_cell (W := (w.alloc (.cells #[.float .f64 q.sm, .float .f64 q.si, .float .f64 q.sx, .float .f64 q.sy, .float .f64 q.ss] 45))) k2
      replace k3 := belBy_cell (W := (w.alloc (.cells #[.float .f64 q.sm, .float .f64 q.si, .float .f64 q.sx, .float .f64 q.sy, .float .f64 q.ss] 45))) k3
      replace k4 := belBy_cell (W := (w.alloc (.cells #[.float .f64 q.sm, .float .f64 q.si, .float .f64 q.sx, .float .f64 q.sy, .float .f64 q.ss] 45))) k4
      refine wp_region_quiet_bel (by kernel_rfl) (by kernel_rfl) ?_
      repeat (go_big_quiet_step (first | (go_at_call 65; exact calls_bel (sq_b _ bx by_))))
      refine wpQuiet_nil ?_
      rintro _ ⟨pW, rfl⟩
      replace k0 := k0 pW
      replace k1 := k1 pW
      replace k2 := k2 pW
      replace k3 := k3 pW
      replace k4 := k4 pW
      go_wp2
      go_ret
      exact ⟨by unfold kiW; rw [h1, h2]; rfl, bl_trans B0 pW.h⟩
    · obtain ⟨i1, _⟩ := lt_pos9 hi i0 h2
      have b2 := (sq1_num bs (by omega)).1
      have qd := fun W => run_quo_kq 24 W hi i1 b2 (by omega)
      have qa := fun W => run_add_o 24 W b4 (k2_bd hi i1 bs) (by omega)
      unfold k1W at qa
      go_enter Try.func23, Try.ntmps23
      go_wp2
      have BN := belBy_some (w.alloc (.cells #[.float .f64 q.sm, .float .f64 q.si, .float .f64 q.sx, .float .f64 q.sy, .float .f64 q.ss] 45))
      replace k0 := belBy_cell (W := (w.alloc (.cells #[.float .f64 q.sm, .float .f64 q.si, .float .f64 q.sx, .float .f64 q.sy, .float .f64 q.ss] 45))) k0
      replace k1 := belBy_cell (W := (w.alloc (.cells #[.float .f64 q.sm, .float .f64 q.si, .float .f64 q.sx, .float .f64 q.sy, .float .f64 q.ss] 45))) k1
      replace k2 := belBy_cell (W := (w.alloc (.cells #[.float .f64 q.sm, .float .f64 q.si, .float .f64 q.sx, .float .f64 q.sy, .float .f64 q.ss] 45))) k2
      replace k3 := belBy_cell (W := (w.alloc (.cells #[.float .f64 q.sm, .float .f64 q.si, .float .f64 q.sx, .float .f64 q.sy, .float .f64 q.ss] 45))) k3
      replace k4 := belBy_cell (W := (w.alloc (.cells #[.float .f64 q.sm, .float .f64 q.si, .float .f64 q.sx, .float .f64 q.sy, .float .f64 q.ss] 45))) k4
      refine wp_region_quiet_bel (by kernel_rfl) (by kernel_rfl) ?_
      repeat (go_big_quiet_step (first | (go_at_call 65; exact calls_bel (sq_b _ bx by_))))
      refine wpQuiet_nil ?_
      rintro _ ⟨pW, rfl⟩
      replace k0 := k0 pW
      replace k1 := k1 pW
      replace k2 := k2 pW
      replace k3 := k3 pW
      replace k4 := k4 pW
      go_wp2
      go_ret
      exact ⟨by unfold kiW; rw [h1, h2]; rfl, bl_trans B0 pW.h⟩

end Go.Proofs.Ytfohggiehbplkaa
