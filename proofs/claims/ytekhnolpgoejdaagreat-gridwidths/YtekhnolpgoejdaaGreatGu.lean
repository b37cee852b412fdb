/-
  What each function of package grid answers: one contract a function.
-/
import Derived.Test.YtekhnolpgoejdaaGreatGt
import Derived.Laws.FloatArith
import Derived.Laws.StructEq
import Derived.Deep.DeepCutAuto
import Derived.Laws.MakeOwn
import Derived.Below
import Derived.BigQuiet
import Derived.OwnWalk
import Derived.Laws.AppendOwn
import Derived.Laws.AppendOwnNone
import Derived.WalkKit
import Derived.WalkLawsBesides
import Derived.WalkSpells
import Derived.ProofKit
import Derived.OpenShut
import Derived.Deep.RegionHeld3
import Derived.Deep.LoopGhost
namespace Go.Proofs.YtekhnolpgoejdaaGreat
open Go.ChangeShapes Go.WideShapes Go.ChangeAt Go.RowKit Go.Shelf Go.Lib Go.Sort
set_option linter.unusedVariables false
set_option linter.unusedSimpArgs false


theorem box_same (b : Bo) (w : World) : Calls Tryz.prog 34 #[.agg #[.float .f64 b.1, .float .f64 b.2.1, .float .f64 b.2.2.1, .float .f64 b.2.2.2], .agg #[.float .f64 b.1, .float .f64 b.2.1, .float .f64 b.2.2.1, .float .f64 b.2.2.2]] w fun e w' => e = .returned (.bool true) ∧ Bel w w' := by
  have h := bSame_any b.1 b.2.1 b.2.2.1 b.2.2.2 b.1 b.2.1 b.2.2.1 b.2.2.2 w
  simp only [smK_self, Bool.and_self] at h
  exact h
set_option maxRecDepth 100000 in
set_option maxHeartbeats 8000000 in
theorem kept14_s (g c : Nat) (sa : Option Addr) (n cap : Nat) (B : Nat → Bo) (w : World) (hL : LenM w g n B) (hA : AnyB w sa n B) (hn : n ≤ 200) (hc : n + 2 ≤ c) (hcm : c ≤ maxLen) :
    Calls Tryz.prog 12 #[.slice (some ⟨g, 0, none⟩) n c, .slice sa n cap] w fun e w' => e = .returned (.bool true) ∧ Bel w w' := by
  have q0 := cmp_eq .f64
  have e77 : eqK .f64 4635118810238550016 4635118810238550016 = true := by decide +kernel
  have e78 : eqK .f64 4635189178982727680 4635189178982727680 = true := by decide +kernel
  have i2 : IntKind.wrap .i64 ((n : Int) + 2) = (n : Int) + 2 := by rw [IntKind.wrap_i64]; omega
  have i1 : IntKind.wrap .i64 ((n : Int) + 1) = (n : Int) + 1 := by rw [IntKind.wrap_i64]; omega
  have i3 : (0 : Int) ≤ (n : Int) + 2 := by omega
  have i4 : (n : Int) + 2 ≤ (c : Int) := by omega
  have i5 : (n : Int) < (n : Int) + 2 := by omega
  have i6 : (n : Int) + 1 < (n : Int) + 2 := by omega
  have i7 : (0 : Int) ≤ (n : Int) + 1 := by omega
  have t1 : ((n : Int) + 2).toNat = n + 2 := by omega
  have t2 : ((n : Int) + 1).toNat = n + 1 := by omega
  go_enter Tryz.func12, Tryz.ntmps12
  go_wp2
  go_loopg [5] n (fun kx s5 wr => ∃ k : Nat, s5 = .int .i64 k ∧ k ≤ n ∧ n - k ≤ kx ∧ Bel w wr)
  case atStart => exact ⟨0, rfl, by omega, by omega, bl_refl _⟩
  case round =>
    obtain ⟨k, rfl, hk, hkx, hW⟩ := hrel
    by_cases hlt : k < n
    · have hltz : (k : Int) < (n : Int) := by omega
      have hwk : IntKind.wrap .i64 ((k : Int) + 1) = (k : Int) + 1 := by rw [IntKind.wrap_i64]; omega
      obtain ⟨b, off, hsa, hB, hb0⟩ : ∃ b off, sa = some ⟨b, off, none⟩ ∧ Bs w b off n B ∧ b < w.heap.size := by
        rcases hA with h0 | h0
        · omega
        · exact h0
      clear hA
      subst hsa
      obtain ⟨x0, x1, x2, x3⟩ := (hB.bel hW) k hlt
      obtain ⟨z0, z1, z2, z3⟩ := (hL.bs.bel hW) k hlt
      rw [Nat.zero_add] at z0 z1 z2 z3
      haveI := belBy_some wr
      have y0 := belBy_cell x0
      have y1 := belBy_cell x1
      have y2 := belBy_cell x2
      have y3 := belBy_cell x3
      have v0 := belBy_cell z0
      have v1 := belBy_cell z1
      have v2 := belBy_cell z2
      have v3 := belBy_cell z3
      go_wp2
      refine wp_region_quiet_bel (by kernel_rfl) (by kernel_rfl) ?_
      repeat (go_big_quiet_step (first | (go_at_call 34; exact calls_bel (box_same (B k) _))))
      refine wpQuiet_nil ?_
      rintro _ ⟨nq, rfl⟩
      go_wp2
      have hb2 := nq.h
      go_roundg (n - (k + 1))
      case measure => omega
      case rel => exact ⟨k + 1, by go_num, by omega, Nat.le_refl _, bl_trans hW hb2⟩
    · have hltz : ¬ (k : Int) < (n : Int) := by omega
      have n0 := keepB hW hL.m0
      have n1 := keepB hW hL.m1
      go_wp2
      go_ret
      exact ⟨by first | rfl | simp [e77, e78], hW⟩

end Go.Proofs.YtekhnolpgoejdaaGreat
