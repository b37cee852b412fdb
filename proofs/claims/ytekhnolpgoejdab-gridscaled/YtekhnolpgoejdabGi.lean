/-
  What each function of package grid answers: one contract a function.
-/
import Derived.Test.YtekhnolpgoejdabGg
import Derived.Test.YtekhnolpgoejdabGsx
import Derived.Laws.FloatArith
import Derived.Laws.StructEq
import Derived.Deep.DeepCutAuto
import Derived.Laws.MakeOwn
import Derived.RangeFuncNested
import Derived.RangeFuncBound
import Derived.RangeFuncCalls
import Derived.RangeFuncLeaves
import Derived.Shelf.Abstract
import Derived.Shelf.RegionOpen
import Derived.OwnWalkIn
import Derived.TacticsInMore
import Derived.LoopNIn
import Derived.LoopIn
import Derived.Maps.OwnIn
import Derived.Sort.LoopGhostIn
import Derived.Below
import Derived.BigQuiet
import Derived.OwnWalk
import Derived.Laws.AppendOwn
import Derived.Laws.AppendOwnNone
import Derived.WalkKit
import Derived.WalkLawsBesides
import Derived.WalkSpells
import Derived.ProofKit
import Derived.OpenShut
import Derived.Deep.RegionHeld3
import Derived.Deep.LoopGhost
namespace Go.Proofs.Ytekhnolpgoejdab
open Go.ChangeShapes Go.WideShapes Go.ChangeAt Go.RowKit Go.Shelf Go.Lib Go.Sort
set_option linter.unusedVariables false
set_option linter.unusedSimpArgs false


attribute [local go_sem] Oper.semAt_some
theorem cells_s (a : Sp4) (w : World) : Calls Try.prog 43 #[.agg #[.int .i64 a.1.1, .int .i64 a.1.2, .int .i64 a.2.1, .int .i64 a.2.2]] w fun e w' => e = .returned (.func (.func 61) #[] #[.pointer (some ⟨w.heap.size, 0, none⟩)]) ∧ w' = w.alloc (.cells #[.int .i64 a.1.1, .int .i64 a.1.2, .int .i64 a.2.1, .int .i64 a.2.2] 81) := by
  go_enter Try.func43, Try.ntmps43
  go_wp2
  go_ret
  exact ⟨rfl, rfl⟩
/-- a span in its block -/
def SpB (W : World) (q : Nat) (a : Sp4) : Prop := W.cell? ⟨q, 0, none⟩ = some (.int .i64 a.1.1) ∧ W.cell? ⟨q, 1, none⟩ = some (.int .i64 a.1.2) ∧ W.cell? ⟨q, 2, none⟩ = some (.int .i64 a.2.1) ∧ W.cell? ⟨q, 3, none⟩ = some (.int .i64 a.2.2)
def KpQ (q : Nat) (W W' : World) : Prop := ∀ o, W'.cell? ⟨q, o, none⟩ = W.cell? ⟨q, o, none⟩
theorem SpB.kp {W W' : World} {q : Nat} {a : Sp4} (h : SpB W q a) (k : KpQ q W W') : SpB W' q a := ⟨(k 0).trans h.1, (k 1).trans h.2.1, (k 2).trans h.2.2.1, (k 3).trans h.2.2.2⟩
set_option maxRecDepth 100000 in
set_option maxHeartbeats 8000000 in
theorem cells_stops (n : Nat) (q : Nat) (a : Sp4) (ha : inSp a) (w : World) (hq : SpB w q a) (hql : q < w.heap.size) (N : Nat) (hN : (cellsL a).length ≤ N) :
    SeqStopsK (α := Ce) Fence.wide n Try.prog 61 #[.pointer (some ⟨q, 0, none⟩)] (fun c => #[ceV c]) (KpQ q) (fun xs => xs = cellsL a) (fun _ => True) N w := by
  intro l J Jx W hb hJ hJx hY h0
  have hW : SpB W q a := ⟨(hb.cell hql).trans hq.1, (hb.cell hql).trans hq.2.1, (hb.cell hql).trans hq.2.2.1, (hb.cell hql).trans hq.2.2.2⟩
  obtain ⟨⟨lx, ly⟩, ⟨hx, hy⟩⟩ := a
  obtain ⟨i1, i2, i3, i4⟩ := ha
  unfold near53 at i1 i2 i3 i4
  simp only at i1 i2 i3 i4
  refine callsIn_of_wp Try.func61 rfl trivial ?_ rfl
  simp only [Try.ntmps61, List.size_toArray, List.length_cons, List.length_nil, Nat.reduceAdd, Nat.reduceSub, Array.replicate_succ, Array.replicate_zero, List.push_toArray, List.append_toArray, List.nil_append, List.cons_append]
  obtain ⟨c0, c1, c2, c3⟩ := hW
  simp only at c0 c1 c2 c3
  obtain ⟨A, hA⟩ : ∃ A : Sp4, A = ((lx, ly), (hx, hy)) := ⟨_, rfl⟩
  have HS : Hid (SpB W q A) := (show SpB W q A from by rw [hA]; exact ⟨c0, c1, c2, c3⟩)
  have HW : Hid (wid A = (hx - lx + 1).toNat) := (show _ = _ from by rw [hA]; rfl)
  have HH : Hid (hgt A = (hy - ly + 1).toNat) := (show _ = _ from by rw [hA]; rfl)
  have HX : Hid (A.1.1 = lx) := (show _ = _ from by rw [hA])
  have HY : Hid (A.1.2 = ly) := (show _ = _ from by rw [hA])
  have HC : Hid (A = ((lx, ly), (hx, hy))) := hA
  rw [← hA] at hN ⊢
  clear hA c1 c2 c3 hq
  gi_wp2
  clear c0
  gi_loopw [3] (fun s3 wr => ∃ p : Nat, s3 = .int .i64 (lx + (p : Int)) ∧ p ≤ wid A ∧ SpB wr q A ∧ J (colsL A p) wr) (fun s3 _ => (hx + 1 - intOf s3).toNat)
  case atStart => exact ⟨0, by simp, Nat.zero_le _, HS.out, h0⟩
  case round =>
    obtain ⟨p, rfl, hp, hS, hJp⟩ := hrel
    have hS2 := hS
    rw [HC.out] at hS2
    obtain ⟨c0, c1, c2, c3⟩ := hS2
    simp only at c0 c1 c2 c3
    have hpw := hp
    rw [HW.out] at hpw
    by_cases hx2 : lx + (p : Int) ≤ hx
    · obtain ⟨X, hX⟩ : ∃ X, lx + (p : Int) = X := ⟨_, rfl⟩
      rw [hX] at hx2 ⊢
      have hwx : IntKind.wrap .i64 (X + 1) = X + 1 := by rw [IntKind.wrap_i64]; omega
      gi_wp2
      gi_loopw [4] (fun s4 wr => ∃ t : Nat, s4 = .int .i64 (ly + (t : Int)) ∧ t ≤ hgt A ∧ SpB wr q A ∧ J (colsL A p ++ colL A X t) wr) (fun s4 _ => (hy + 1 - intOf s4).toNat)
      case atStart => exact ⟨0, by simp, Nat.zero_le _, hS, by simpa [colL] using hJp⟩
      case round =>
        obtain ⟨t, rfl, ht, hSt, hJt⟩ := hrel
        have hS3 := hSt
        rw [HC.out] at hS3
        obtain ⟨d0, d1, d2, d3⟩ := hS3
        simp only at d0 d1 d2 d3
        have htw := ht
        rw [HH.out] at htw
        by_cases hy2 : ly + (t : Int) ≤ hy
        · obtain ⟨Y, hYY⟩ : ∃ Y, ly + (t : Int) = Y := ⟨_, rfl⟩
          rw [hYY] at hy2 ⊢
          have hwy : IntKind.wrap .i64 (Y + 1) = Y + 1 := by rw [IntKind.wrap_i64]; omega
          have hlen : (colsL A p ++ colL A X t).length < N := by
            have h1 : (cellsL A).length = wid A * hgt A := colsL_len A (wid A)
            have h2 : p + 1 ≤ wid A := by rw [HW.out]; omega
            have h3 : t < hgt A := by rw [HH.out]; omega
            have h4 : (p + 1) * hgt A ≤ wid A * hgt A := Nat.mul_le_mul_right _ h2
            rw [Nat.add_mul, Nat.one_mul] at h4
            rw [List.length_append, colsL_len, colL_len]
            omega
          obtain ⟨fn, tmps, assign, body, hy0, hR⟩ := hY _ (X, Y) wr hJt hlen
          unfold ceV at hy0
          gi_wp2
          refine ⟨fun h => (by simp [Fence.wide] at h), hR.mono ?_⟩
          rintro e W3 (⟨rfl, hJ3, hk3⟩ | ⟨rfl, hJx3⟩)
          · gi_wp2
            go_roundw
            case rel => exact ⟨t + 1, by simp only [Value.int.injEq, true_and]; omega, by rw [HH.out]; omega, hSt.kp hk3, by rw [colL_succ, HY.out, hYY, ← List.append_assoc]; exact hJ3⟩
            case measure => simp only [intOf]; omega
          · gi_wp2
            refine bodyPost_ret (results_none rfl _ _ _) rfl ?_
            exact ⟨⟨_, rfl⟩, .inr ⟨_, trivial, hJx3⟩⟩
        · gi_wp2
          have hth : t = hgt A := by rw [HH.out]; omega
          go_roundw
          case rel => exact ⟨p + 1, by simp only [Value.int.injEq, true_and]; omega, by rw [HW.out]; omega, hSt, by rw [colsL, HX.out, hX, ← hth]; exact hJt⟩
          case measure => simp only [intOf]; omega
    · gi_wp2
      go_end0
      have hpw2 : p = wid A := by rw [HW.out]; omega
      exact ⟨⟨_, rfl⟩, .inl (by first | exact ⟨_, rfl, by unfold cellsL; rw [← hpw2]; exact hJp⟩ | (unfold cellsL; rw [← hpw2]; exact hJp))⟩

end Go.Proofs.Ytekhnolpgoejdab
