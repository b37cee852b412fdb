/-
  What each function of package poly answers, and what the reference of its chapter answers: one contract a function, for every float: the answer stands in the relation of its formula to what was given; of the memory that was there nothing has turned.
-/
import Derived.Test.YtchfgaooogfkdaaVec
import Derived.Test.YtchfgaooogfkdaaXt
import Derived.Below
import Derived.OwnWalk
import Derived.Laws.AppendOwn
import Derived.Lib.SliceRun
import Derived.Laws.MakeOwn
import Derived.WalkKit
import Derived.WalkLawsBesides
import Derived.WalkSpells
import Derived.ProofKit
import Derived.OpenShut
import Derived.Deep.RegionHeld3
namespace Go.Proofs.Ytchfgaooogfkdaa
open Go.ChangeShapes Go.WideShapes Go.ChangeAt Go.RowKit
set_option linter.unusedVariables false
set_option linter.unusedSimpArgs false


set_option maxRecDepth 100000 in
set_option maxHeartbeats 4000000 in
theorem lmoved21 (s : SD) (w : World) : Calls Try.prog 13 #[.agg #[.float .f64 s.sm, .float .f64 s.si, .float .f64 s.sx, .float .f64 s.sy, .float .f64 s.ss]] w fun e w' => e = .returned (.bool (mvB s)) ∧ Bel w w' := by
  have c1 := cmp_gt .f64
  have hA : (w.alloc (.cells #[.float .f64 s.sm, .float .f64 s.si, .float .f64 s.sx, .float .f64 s.sy, .float .f64 s.ss] 35)).rangeAt w.heap.size 0 [.float .f64 s.sm, .float .f64 s.si, .float .f64 s.sx, .float .f64 s.sy, .float .f64 s.ss] := rng_new w [.float .f64 s.sm, .float .f64 s.si, .float .f64 s.sx, .float .f64 s.sy, .float .f64 s.ss] 35
  have k0 : (w.alloc (.cells #[.float .f64 s.sm, .float .f64 s.si, .float .f64 s.sx, .float .f64 s.sy, .float .f64 s.ss] 35)).cell? ⟨w.heap.size, 0, none⟩ = some (.float .f64 s.sm) := hA 0 _ rfl
  have k1 : (w.alloc (.cells #[.float .f64 s.sm, .float .f64 s.si, .float .f64 s.sx, .float .f64 s.sy, .float .f64 s.ss] 35)).cell? ⟨w.heap.size, 1, none⟩ = some (.float .f64 s.si) := hA 1 _ rfl
  have B0 : Bel w (w.alloc (.cells #[.float .f64 s.sm, .float .f64 s.si, .float .f64 s.sx, .float .f64 s.sy, .float .f64 s.ss] 35)) := bl_alloc (bl_refl w) _ _
  unfold mvB
  cases h1 : ltK .f64 0 s.sm
  · cases h2 : ltK .f64 0 s.si
    all_goals
      go_enter Try.func13, Try.ntmps13
      repeat (first | go_values | go_skip | go_guarded | go_step | go_upon | go_back | dsimp only)
      go_ret
      exact ⟨rfl, B0⟩
  · go_enter Try.func13, Try.ntmps13
    repeat (first | go_values | go_skip | go_guarded | go_step | go_upon | go_back | dsimp only)
    go_ret
    exact ⟨rfl, B0⟩
set_option maxRecDepth 100000 in
set_option maxHeartbeats 4000000 in
theorem has21 (rb ro rn rc_ : Nat) (rs : Option Addr) (Q : Nat → RD) (t : Int) (w : World) (hrs : rn = 0 ∨ rs = some ⟨rb, ro, none⟩) (hrc : rn ≤ rc_) (hrm : rc_ ≤ maxLen) (hr : Rws w rb ro rn Q) (or_ : ∀ i, i < rn → rok (Q i)) : Calls Try.prog 14 #[.slice rs rn rc_, .int .i64 t] w fun e w' => e = .returned (.bool (anyN (fun i => decide ((Q i).ra = t) || decide ((Q i).rb = t)) rn)) ∧ w' = w := by
  unfold maxLen at hrm
  go_enter Try.func14, Try.ntmps14
  repeat (first | go_values | go_skip | go_guarded | go_step | go_upon | go_back | dsimp only)
  go_loopw [5] (fun i wr => ∃ k : Nat, k ≤ rn ∧ i = .int .i64 k ∧ wr = w ∧ anyN (fun i => decide ((Q i).ra = t) || decide ((Q i).rb = t)) k = false) (fun i _ => rn - (intOf i).toNat)
  case atStart => exact ⟨0, by omega, rfl, rfl, rfl⟩
  case round =>
    obtain ⟨k, hk, rfl, rfl, hq⟩ := hrel
    by_cases hlt : k < rn
    · have e9 : rs = some ⟨rb, ro, none⟩ := by rcases hrs with h | h; omega; exact h
      subst e9
      have hkI : (k : Int) < (rn : Int) := by omega
      have x0 : wr.cell? ⟨rb, ro + k * 14, none⟩ = some (.int .i64 (Q k).ra) := hr k hlt 0 _ rfl
      have x1 : wr.cell? ⟨rb, ro + k * 14 + 1, none⟩ = some (.int .i64 (Q k).rb) := hr k hlt 1 _ rfl
      by_cases hA : (Q k).ra = t
      · have hA1 : ((Q k).ra == t) = true := by simp [hA]
        repeat (first | go_values | go_skip | go_guarded | go_step | go_upon | go_back | dsimp only)
        go_ret
        exact ⟨by rw [anyN_at (p := (fun i => decide ((Q i).ra = t) || decide ((Q i).rb = t))) (k := k) (by simp [hA]) hlt]; rfl, rfl⟩
      · have hA1 : ((Q k).ra == t) = false := by simp [hA]
        by_cases hB : (Q k).rb = t
        · have hB1 : ((Q k).rb == t) = true := by simp [hB]
          repeat (first | go_values | go_skip | go_guarded | go_step | go_upon | go_back | dsimp only)
          go_ret
          exact ⟨by rw [anyN_at (p := (fun i => decide ((Q i).ra = t) || decide ((Q i).rb = t))) (k := k) (by simp [hB]) hlt]; rfl, rfl⟩
        · have hB1 : ((Q k).rb == t) = false := by simp [hB]
          repeat (first | go_values | go_skip | go_guarded | go_step | go_upon | go_back | dsimp only)
          refine ⟨⟨k + 1, by omega, by go_num, (by first | rfl | trivial), ?_⟩, by simp [intOf]; omega⟩
          unfold anyN
          rw [hq]
          simp [hA, hB]
    · have hkn : k = rn := by omega
      subst hkn
      repeat (first | go_values | go_skip | go_guarded | go_step | go_upon | go_back | dsimp only)
      go_ret
      exact ⟨by rw [hq]; rfl, rfl⟩

/-- a row of a list that stands behind n rows -/
def shR (n : Nat) (R : RD) : RD := if 0 ≤ R.ro then { R with ro := R.ro + n } else R
def joQ (Q : Nat → RD) (n : Nat) (Q2 : Nat → RD) : Nat → RD := fun i => if i < n then Q i else shR n (Q2 (i - n))
theorem run_app0n (w : World) (ty c : Nat) (a : Option Addr) : (Builtin.append_ #[22, 22] ty #[.slice none 0 0, .slice a 0 c]).run Try.prog w = .ok (.slice none 0 0) w := by
  obtain ⟨i0, hi, hz0, hz1, hz2⟩ := info_parts info_row
  cases a <;> simp [Builtin.append_, run_underlying Try.underlying22, sizeOf, typeInfo, hi, Builtin.lenOf, Builtin.firstCells, loadCells, loadCellsFrom, storeCells]
theorem rowsL_eq {Q P : Nat → RD} : ∀ {n : Nat}, (∀ i, i < n → Q i = P i) → rowsL Q n = rowsL P n
  | 0, _ => rfl
  | n + 1, h => by rw [rowsL_snoc, rowsL_snoc, rowsL_eq (fun i hi => h i (by omega)), h n (by omega)]
theorem jo_snoc (Q : Nat → RD) (n : Nat) (Q2 : Nat → RD) (k : Nat) : rowsL (joQ Q n Q2) (n + (k + 1)) = rowsL (joQ Q n Q2) (n + k) ++ rc (shR n (Q2 k)) := by
  rw [show n + (k + 1) = (n + k) + 1 by omega, rowsL_snoc]
  unfold joQ
  rw [if_neg (show ¬ n + k < n by omega), show n + k - n = k by omega]
set_option maxRecDepth 100000 in
set_option maxHeartbeats 4000000 in
theorem joined_w (rb ro rn rc_ : Nat) (rs : Option Addr) (Q : Nat → RD) (qb qo qn qc_ : Nat) (qs : Option Addr) (Q2 : Nat → RD) (w : World) (hrs : rn = 0 ∨ rs = some ⟨rb, ro, none⟩) (hrc : rn ≤ rc_) (hrm : rc_ ≤ maxLen) (hr : Rws w rb ro rn Q) (or_ : ∀ i, i < rn → rok (Q i)) (hqs : qn = 0 ∨ qs = some ⟨qb, qo, none⟩) (hqc : qn ≤ qc_) (hqm : qc_ ≤ maxLen) (hq : Rws w qb qo qn Q2) (oq_ : ∀ i, i < qn → rok (Q2 i)) (hl1 : rn ≤ 60) (hl2 : qn ≤ 60) (hof : ∀ i, i < qn → (Q2 i).ro < 1000) : Calls Try.prog 12 #[.slice rs rn rc_, .slice qs qn qc_] w fun e w' => ∃ v, OwnR 14 w.heap.size w' v (rn + qn) (rowsL (joQ Q rn Q2) (rn + qn)) ∧ e = .returned (v) ∧ Bel w w' := by
  unfold maxLen at hqm
  obtain ⟨v0, w0, hr1, hr2, hr4⟩ : ∃ v0 w0, (Builtin.append_ #[22, 22] 22 #[.slice none 0 0, .slice rs rn rc_]).run Try.prog w = .ok v0 w0 ∧ OwnR 14 w.heap.size w0 v0 rn (rowsL Q rn) ∧ Bel w w0 := by
    rcases Nat.eq_zero_or_pos rn with hz | hp
    · subst hz
      exact ⟨_, _, run_app0n w _ _ _, OwnR.nil _ _ _, bl_refl _⟩
    · have e9 : rs = some ⟨rb, ro, none⟩ := by rcases hrs with h | h; omega; exact h
      subst e9
      obtain ⟨v', w', a1, a2, _, a4⟩ := run_appR (P := Try.prog) 22 22 56 Try.underlying22 info_row rfl rb ro rn rc_ (OwnR.nil 14 w.heap.size w) (rowsL_len Q rn) (rowsL_rw hr) (rowsL_one Q rn) hp (Nat.le_refl _) (by unfold maxLen; omega) (by omega)
      simp only [Nat.zero_add, List.nil_append] at a2
      exact ⟨v', w', a1, a2, a4 w (bl_refl _) (Nat.le_refl _)⟩
  rw [rowsL_eq (P := joQ Q rn Q2) (fun i hi => by unfold joQ; rw [if_pos hi])] at hr2
  go_enter Try.func12, Try.ntmps12
  go_wp2_with (first | (at_builtin; refine wpList_runX 22 rfl (.tmp 8) (.tmp 9) rfl rfl rfl hr1 ?_))
  go_loopw [6, 5] (fun i v wr => ∃ k : Nat, k ≤ qn ∧ i = .int .i64 k ∧ OwnR 14 w.heap.size wr v (rn + k) (rowsL (joQ Q rn Q2) (rn + k)) ∧ Bel w wr) (fun i _ _ => qn - (intOf i).toNat)
  case atStart => exact ⟨0, by omega, rfl, hr2, hr4⟩
  case round =>
    obtain ⟨k, hk, rfl, hO, hB⟩ := hrel
    by_cases hlt : k < qn
    · have e9 : qs = some ⟨qb, qo, none⟩ := by rcases hqs with h | h; omega; exact h
      subst e9
      have hkI : (k : Int) < (qn : Int) := by omega
      have hld : wr.rangeAt qb (qo + k * 14) [.int .i64 (Q2 k).ra, .int .i64 (Q2 k).rb, .float .f64 (Q2 k).r2, .float .f64 (Q2 k).r3, .float .f64 (Q2 k).r4, .float .f64 (Q2 k).r5, .float .f64 (Q2 k).r6, .float .f64 (Q2 k).r7, .float .f64 (Q2 k).r8, .float .f64 (Q2 k).r9, .float .f64 (Q2 k).r10, .float .f64 (Q2 k).r11, .int .i64 (Q2 k).ro, .float .f64 (Q2 k).r13] := (hq.bel hB) k hlt
      have hX9 : (wr.alloc (.cells #[.int .i64 0, .int .i64 0, .float .f64 0, .float .f64 0, .float .f64 0, .float .f64 0, .float .f64 0, .float .f64 0, .float .f64 0, .float .f64 0, .float .f64 0, .float .f64 0, .int .i64 0, .float .f64 0] 56)).there wr.heap.size 0 14 := there_new wr [.int .i64 0, .int .i64 0, .float .f64 0, .float .f64 0, .float .f64 0, .float .f64 0, .float .f64 0, .float .f64 0, .float .f64 0, .float .f64 0, .float .f64 0, .float .f64 0, .int .i64 0, .float .f64 0] 56
      have hY : ((wr.alloc (.cells #[.int .i64 0, .int .i64 0, .float .f64 0, .float .f64 0, .float .f64 0, .float .f64 0, .float .f64 0, .float .f64 0, .float .f64 0, .float .f64 0, .float .f64 0, .float .f64 0, .int .i64 0, .float .f64 0] 56)).setCells wr.heap.size 0 [.int .i64 (Q2 k).ra, .int .i64 (Q2 k).rb, .float .f64 (Q2 k).r2, .float .f64 (Q2 k).r3, .float .f64 (Q2 k).r4, .float .f64 (Q2 k).r5, .float .f64 (Q2 k).r6, .float .f64 (Q2 k).r7, .float .f64 (Q2 k).r8, .float .f64 (Q2 k).r9, .float .f64 (Q2 k).r10, .float .f64 (Q2 k).r11, .int .i64 (Q2 k).ro, .float .f64 (Q2 k).r13]).rangeAt wr.heap.size 0 [.int .i64 (Q2 k).ra, .int .i64 (Q2 k).rb, .float .f64 (Q2 k).r2, .float .f64 (Q2 k).r3, .float .f64 (Q2 k).r4, .float .f64 (Q2 k).r5, .float .f64 (Q2 k).r6, .float .f64 (Q2 k).r7, .float .f64 (Q2 k).r8, .float .f64 (Q2 k).r9, .float .f64 (Q2 k).r10, .float .f64 (Q2 k).r11, .int .i64 (Q2 k).ro, .float .f64 (Q2 k).r13] := World.rangeAt_setCells_same _ _ _ _ hX9
      have hB2 : Bel wr ((wr.alloc (.cells #[.int .i64 0, .int .i64 0, .float .f64 0, .float .f64 0, .float .f64 0, .float .f64 0, .float .f64 0, .float .f64 0, .float .f64 0, .float .f64 0, .float .f64 0, .float .f64 0, .int .i64 0, .float .f64 0] 56)).setCells wr.heap.size 0 [.int .i64 (Q2 k).ra, .int .i64 (Q2 k).rb, .float .f64 (Q2 k).r2, .float .f64 (Q2 k).r3, .float .f64 (Q2 k).r4, .float .f64 (Q2 k).r5, .float .f64 (Q2 k).r6, .float .f64 (Q2 k).r7, .float .f64 (Q2 k).r8, .float .f64 (Q2 k).r9, .float .f64 (Q2 k).r10, .float .f64 (Q2 k).r11, .int .i64 (Q2 k).ro, .float .f64 (Q2 k).r13]) := bel_setsJ _ _ (bl_alloc (bl_refl _) _ _) (Nat.le_refl _)
      have y12 : ((wr.alloc (.cells #[.int .i64 0, .int .i64 0, .float .f64 0, .float .f64 0, .float .f64 0, .float .f64 0, .float .f64 0, .float .f64 0, .float .f64 0, .float .f64 0, .float .f64 0, .float .f64 0, .int .i64 0, .float .f64 0] 56)).setCells wr.heap.size 0 [.int .i64 (Q2 k).ra, .int .i64 (Q2 k).rb, .float .f64 (Q2 k).r2, .float .f64 (Q2 k).r3, .float .f64 (Q2 k).r4, .float .f64 (Q2 k).r5, .float .f64 (Q2 k).r6, .float .f64 (Q2 k).r7, .float .f64 (Q2 k).r8, .float .f64 (Q2 k).r9, .float .f64 (Q2 k).r10, .float .f64 (Q2 k).r11, .int .i64 (Q2 k).ro, .float .f64 (Q2 k).r13]).cell? ⟨wr.heap.size, 12, none⟩ = some (.int .i64 (Q2 k).ro) := hY 12 _ rfl
      have f12 : ((wr.alloc (.cells #[.int .i64 0, .int .i64 0, .float .f64 0, .float .f64 0, .float .f64 0, .float .f64 0, .float .f64 0, .float .f64 0, .float .f64 0, .float .f64 0, .float .f64 0, .float .f64 0, .int .i64 0, .float .f64 0] 56)).setCells wr.heap.size 0 [.int .i64 (Q2 k).ra, .int .i64 (Q2 k).rb, .float .f64 (Q2 k).r2, .float .f64 (Q2 k).r3, .float .f64 (Q2 k).r4, .float .f64 (Q2 k).r5, .float .f64 (Q2 k).r6, .float .f64 (Q2 k).r7, .float .f64 (Q2 k).r8, .float .f64 (Q2 k).r9, .float .f64 (Q2 k).r10, .float .f64 (Q2 k).r11, .int .i64 (Q2 k).ro, .float .f64 (Q2 k).r13]).frozen? ⟨wr.heap.size, 12, none⟩ = false := by have h := ((World.there_setCells hX9 _ _ [.int .i64 (Q2 k).ra, .int .i64 (Q2 k).rb, .float .f64 (Q2 k).r2, .float .f64 (Q2 k).r3, .float .f64 (Q2 k).r4, .float .f64 (Q2 k).r5, .float .f64 (Q2 k).r6, .float .f64 (Q2 k).r7, .float .f64 (Q2 k).r8, .float .f64 (Q2 k).r9, .float .f64 (Q2 k).r10, .float .f64 (Q2 k).r11, .int .i64 (Q2 k).ro, .float .f64 (Q2 k).r13] : ((wr.alloc (.cells #[.int .i64 0, .int .i64 0, .float .f64 0, .float .f64 0, .float .f64 0, .float .f64 0, .float .f64 0, .float .f64 0, .float .f64 0, .float .f64 0, .float .f64 0, .float .f64 0, .int .i64 0, .float .f64 0] 56)).setCells wr.heap.size 0 [.int .i64 (Q2 k).ra, .int .i64 (Q2 k).rb, .float .f64 (Q2 k).r2, .float .f64 (Q2 k).r3, .float .f64 (Q2 k).r4, .float .f64 (Q2 k).r5, .float .f64 (Q2 k).r6, .float .f64 (Q2 k).r7, .float .f64 (Q2 k).r8, .float .f64 (Q2 k).r9, .float .f64 (Q2 k).r10, .float .f64 (Q2 k).r11, .int .i64 (Q2 k).ro, .float .f64 (Q2 k).r13]).there wr.heap.size 0 14) 12 (by omega)).2; rwa [Nat.zero_add] at h
      have hzw := hB.size
      have hof9 := hof k hlt
      by_cases ho : 0 ≤ (Q2 k).ro
      · have ew : IntKind.wrap .i64 ((Q2 k).ro + (rn : Int)) = (Q2 k).ro + rn := by rw [IntKind.wrap_i64]; omega
        have esh : shR rn (Q2 k) = { Q2 k with ro := (Q2 k).ro + rn } := by unfold shR; rw [if_pos ho]
        have hY3 : (((wr.alloc (.cells #[.int .i64 0, .int .i64 0, .float .f64 0, .float .f64 0, .float .f64 0, .float .f64 0, .float .f64 0, .float .f64 0, .float .f64 0, .float .f64 0, .float .f64 0, .float .f64 0, .int .i64 0, .float .f64 0] 56)).setCells wr.heap.size 0 [.int .i64 (Q2 k).ra, .int .i64 (Q2 k).rb, .float .f64 (Q2 k).r2, .float .f64 (Q2 k).r3, .float .f64 (Q2 k).r4, .float .f64 (Q2 k).r5, .float .f64 (Q2 k).r6, .float .f64 (Q2 k).r7, .float .f64 (Q2 k).r8, .float .f64 (Q2 k).r9, .float .f64 (Q2 k).r10, .float .f64 (Q2 k).r11, .int .i64 (Q2 k).ro, .float .f64 (Q2 k).r13]).setCell ⟨wr.heap.size, 12, none⟩ (.int .i64 ((Q2 k).ro + rn))).rangeAt wr.heap.size 0 [.int .i64 (Q2 k).ra, .int .i64 (Q2 k).rb, .float .f64 (Q2 k).r2, .float .f64 (Q2 k).r3, .float .f64 (Q2 k).r4, .float .f64 (Q2 k).r5, .float .f64 (Q2 k).r6, .float .f64 (Q2 k).r7, .float .f64 (Q2 k).r8, .float .f64 (Q2 k).r9, .float .f64 (Q2 k).r10, .float .f64 (Q2 k).r11, .int .i64 ((Q2 k).ro + rn), .float .f64 (Q2 k).r13] := by have h := rng_upd (k := 12) (v := .int .i64 ((Q2 k).ro + rn)) hY (by simp); exact h
        have hB3 : Bel wr (((wr.alloc (.cells #[.int .i64 0, .int .i64 0, .float .f64 0, .float .f64 0, .float .f64 0, .float .f64 0, .float .f64 0, .float .f64 0, .float .f64 0, .float .f64 0, .float .f64 0, .float .f64 0, .int .i64 0, .float .f64 0] 56)).setCells wr.heap.size 0 [.int .i64 (Q2 k).ra, .int .i64 (Q2 k).rb, .float .f64 (Q2 k).r2, .float .f64 (Q2 k).r3, .float .f64 (Q2 k).r4, .float .f64 (Q2 k).r5, .float .f64 (Q2 k).r6, .float .f64 (Q2 k).r7, .float .f64 (Q2 k).r8, .float .f64 (Q2 k).r9, .float .f64 (Q2 k).r10, .float .f64 (Q2 k).r11, .int .i64 (Q2 k).ro, .float .f64 (Q2 k).r13]).setCell ⟨wr.heap.size, 12, none⟩ (.int .i64 ((Q2 k).ro + rn))) := bel_set1 hB2 (Nat.le_refl _)
        have hz3 : (((wr.alloc (.cells #[.int .i64 0, .int .i64 0, .float .f64 0, .float .f64 0, .float .f64 0, .float .f64 0, .float .f64 0, .float .f64 0, .float .f64 0, .float .f64 0, .float .f64 0, .float .f64 0, .int .i64 0, .float .f64 0] 56)).setCells wr.heap.size 0 [.int .i64 (Q2 k).ra, .int .i64 (Q2 k).rb, .float .f64 (Q2 k).r2, .float .f64 (Q2 k).r3, .float .f64 (Q2 k).r4, .float .f64 (Q2 k).r5, .float .f64 (Q2 k).r6, .float .f64 (Q2 k).r7, .float .f64 (Q2 k).r8, .float .f64 (Q2 k).r9, .float .f64 (Q2 k).r10, .float .f64 (Q2 k).r11, .int .i64 (Q2 k).ro, .float .f64 (Q2 k).r13]).setCell ⟨wr.heap.size, 12, none⟩ (.int .i64 ((Q2 k).ro + rn))).heap.size = wr.heap.size + 1 := by simp only [World.size_setCell, size_setsJ, World.size_alloc]
        have B5 : Bel (((wr.alloc (.cells #[.int .i64 0, .int .i64 0, .float .f64 0, .float .f64 0, .float .f64 0, .float .f64 0, .float .f64 0, .float .f64 0, .float .f64 0, .float .f64 0, .float .f64 0, .float .f64 0, .int .i64 0, .float .f64 0] 56)).setCells wr.heap.size 0 [.int .i64 (Q2 k).ra, .int .i64 (Q2 k).rb, .float .f64 (Q2 k).r2, .float .f64 (Q2 k).r3, .float .f64 (Q2 k).r4, .float .f64 (Q2 k).r5, .float .f64 (Q2 k).r6, .float .f64 (Q2 k).r7, .float .f64 (Q2 k).r8, .float .f64 (Q2 k).r9, .float .f64 (Q2 k).r10, .float .f64 (Q2 k).r11, .int .i64 (Q2 k).ro, .float .f64 (Q2 k).r13]).setCell ⟨wr.heap.size, 12, none⟩ (.int .i64 ((Q2 k).ro + rn))) ((((wr.alloc (.cells #[.int .i64 0, .int .i64 0, .float .f64 0, .float .f64 0, .float .f64 0, .float .f64 0, .float .f64 0, .float .f64 0, .float .f64 0, .float .f64 0, .float .f64 0, .float .f64 0, .int .i64 0, .float .f64 0] 56)).setCells wr.heap.size 0 [.int .i64 (Q2 k).ra, .int .i64 (Q2 k).rb, .float .f64 (Q2 k).r2, .float .f64 (Q2 k).r3, .float .f64 (Q2 k).r4, .float .f64 (Q2 k).r5, .float .f64 (Q2 k).r6, .float .f64 (Q2 k).r7, .float .f64 (Q2 k).r8, .float .f64 (Q2 k).r9, .float .f64 (Q2 k).r10, .float .f64 (Q2 k).r11, .int .i64 (Q2 k).ro, .float .f64 (Q2 k).r13]).setCell ⟨wr.heap.size, 12, none⟩ (.int .i64 ((Q2 k).ro + rn))).alloc (.cells #[.int .i64 (Q2 k).ra, .int .i64 (Q2 k).rb, .float .f64 (Q2 k).r2, .float .f64 (Q2 k).r3, .float .f64 (Q2 k).r4, .float .f64 (Q2 k).r5, .float .f64 (Q2 k).r6, .float .f64 (Q2 k).r7, .float .f64 (Q2 k).r8, .float .f64 (Q2 k).r9, .float .f64 (Q2 k).r10, .float .f64 (Q2 k).r11, .int .i64 ((Q2 k).ro + rn), .float .f64 (Q2 k).r13] 56)) := bl_alloc (bl_refl _) _ _
        have hN : Rw ((((wr.alloc (.cells #[.int .i64 0, .int .i64 0, .float .f64 0, .float .f64 0, .float .f64 0, .float .f64 0, .float .f64 0, .float .f64 0, .float .f64 0, .float .f64 0, .float .f64 0, .float .f64 0, .int .i64 0, .float .f64 0] 56)).setCells wr.heap.size 0 [.int .i64 (Q2 k).ra, .int .i64 (Q2 k).rb, .float .f64 (Q2 k).r2, .float .f64 (Q2 k).r3, .float .f64 (Q2 k).r4, .float .f64 (Q2 k).r5, .float .f64 (Q2 k).r6, .float .f64 (Q2 k).r7, .float .f64 (Q2 k).r8, .float .f64 (Q2 k).r9, .float .f64 (Q2 k).r10, .float .f64 (Q2 k).r11, .int .i64 (Q2 k).ro, .float .f64 (Q2 k).r13]).setCell ⟨wr.heap.size, 12, none⟩ (.int .i64 ((Q2 k).ro + rn))).alloc (.cells #[.int .i64 (Q2 k).ra, .int .i64 (Q2 k).rb, .float .f64 (Q2 k).r2, .float .f64 (Q2 k).r3, .float .f64 (Q2 k).r4, .float .f64 (Q2 k).r5, .float .f64 (Q2 k).r6, .float .f64 (Q2 k).r7, .float .f64 (Q2 k).r8, .float .f64 (Q2 k).r9, .float .f64 (Q2 k).r10, .float .f64 (Q2 k).r11, .int .i64 ((Q2 k).ro + rn), .float .f64 (Q2 k).r13] 56)) (wr.heap.size + 1) 0 [.int .i64 (Q2 k).ra, .int .i64 (Q2 k).rb, .float .f64 (Q2 k).r2, .float .f64 (Q2 k).r3, .float .f64 (Q2 k).r4, .float .f64 (Q2 k).r5, .float .f64 (Q2 k).r6, .float .f64 (Q2 k).r7, .float .f64 (Q2 k).r8, .float .f64 (Q2 k).r9, .float .f64 (Q2 k).r10, .float .f64 (Q2 k).r11, .int .i64 ((Q2 k).ro + rn), .float .f64 (Q2 k).r13] := fun q u hq9 => by
          have h := rng_new (((wr.alloc (.cells #[.int .i64 0, .int .i64 0, .float .f64 0, .float .f64 0, .float .f64 0, .float .f64 0, .float .f64 0, .float .f64 0, .float .f64 0, .float .f64 0, .float .f64 0, .float .f64 0, .int .i64 0, .float .f64 0] 56)).setCells wr.heap.size 0 [.int .i64 (Q2 k).ra, .int .i64 (Q2 k).rb, .float .f64 (Q2 k).r2, .float .f64 (Q2 k).r3, .float .f64 (Q2 k).r4, .float .f64 (Q2 k).r5, .float .f64 (Q2 k).r6, .float .f64 (Q2 k).r7, .float .f64 (Q2 k).r8, .float .f64 (Q2 k).r9, .float .f64 (Q2 k).r10, .float .f64 (Q2 k).r11, .int .i64 (Q2 k).ro, .float .f64 (Q2 k).r13]).setCell ⟨wr.heap.size, 12, none⟩ (.int .i64 ((Q2 k).ro + rn))) [.int .i64 (Q2 k).ra, .int .i64 (Q2 k).rb, .float .f64 (Q2 k).r2, .float .f64 (Q2 k).r3, .float .f64 (Q2 k).r4, .float .f64 (Q2 k).r5, .float .f64 (Q2 k).r6, .float .f64 (Q2 k).r7, .float .f64 (Q2 k).r8, .float .f64 (Q2 k).r9, .float .f64 (Q2 k).r10, .float .f64 (Q2 k).r11, .int .i64 ((Q2 k).ro + rn), .float .f64 (Q2 k).r13] 56 q u hq9
          rw [hz3] at h
          exact h
        obtain ⟨v', w', a1, a2, _, a4⟩ := run_appR (P := Try.prog) 22 22 56 Try.underlying22 info_row rfl (wr.heap.size + 1) 0 1 1 (hO.bel (bl_trans hB3 B5)) (N := [.int .i64 (Q2 k).ra, .int .i64 (Q2 k).rb, .float .f64 (Q2 k).r2, .float .f64 (Q2 k).r3, .float .f64 (Q2 k).r4, .float .f64 (Q2 k).r5, .float .f64 (Q2 k).r6, .float .f64 (Q2 k).r7, .float .f64 (Q2 k).r8, .float .f64 (Q2 k).r9, .float .f64 (Q2 k).r10, .float .f64 (Q2 k).r11, .int .i64 ((Q2 k).ro + rn), .float .f64 (Q2 k).r13]) rfl hN (by intro u hu; simp only [List.mem_cons, List.not_mem_nil, or_false] at hu; rcases hu with rfl | rfl | rfl | rfl | rfl | rfl | rfl | rfl | rfl | rfl | rfl | rfl | rfl | rfl <;> rfl) (by decide) (by have := (bl_trans hB3 B5).size; omega) (by unfold maxLen; omega) (by omega)
        repeat (first | (with_reducible show Oper.wp _ _ _ _ _ _; refine wp_load_mid (P := Try.prog) 56 _ rfl (wr.heap.size) 0 rfl [.int .i64 (Q2 k).ra, .int .i64 (Q2 k).rb, .float .f64 (Q2 k).r2, .float .f64 (Q2 k).r3, .float .f64 (Q2 k).r4, .float .f64 (Q2 k).r5, .float .f64 (Q2 k).r6, .float .f64 (Q2 k).r7, .float .f64 (Q2 k).r8, .float .f64 (Q2 k).r9, .float .f64 (Q2 k).r10, .float .f64 (Q2 k).r11, .int .i64 ((Q2 k).ro + rn), .float .f64 (Q2 k).r13] _ (by with_reducible assumption) Try.underlying56 rfl (by kernel_rfl) ?_; simp only [go_sem]) | ((with_reducible show Oper.wp _ { dst := _, op := Op.load 56 _, type := _, pos := _, after := _, guard := _ } _ _ _ _); refine wp_load_mid (P := Try.prog) 56 _ rfl _ _ rfl [.int .i64 (Q2 k).ra, .int .i64 (Q2 k).rb, .float .f64 (Q2 k).r2, .float .f64 (Q2 k).r3, .float .f64 (Q2 k).r4, .float .f64 (Q2 k).r5, .float .f64 (Q2 k).r6, .float .f64 (Q2 k).r7, .float .f64 (Q2 k).r8, .float .f64 (Q2 k).r9, .float .f64 (Q2 k).r10, .float .f64 (Q2 k).r11, .int .i64 (Q2 k).ro, .float .f64 (Q2 k).r13] _ hld Try.underlying56 rfl (by kernel_rfl) ?_; simp only [go_sem]) | ((with_reducible show Oper.wp _ { dst := _, op := Op.store 56 _ _, type := _, pos := _, after := _, guard := _ } _ _ _ _); refine wp_store_mid (P := Try.prog) 56 _ _ rfl (wr.heap.size) (0) #[.int .i64 (Q2 k).ra, .int .i64 (Q2 k).rb, .float .f64 (Q2 k).r2, .float .f64 (Q2 k).r3, .float .f64 (Q2 k).r4, .float .f64 (Q2 k).r5, .float .f64 (Q2 k).r6, .float .f64 (Q2 k).r7, .float .f64 (Q2 k).r8, .float .f64 (Q2 k).r9, .float .f64 (Q2 k).r10, .float .f64 (Q2 k).r11, .int .i64 (Q2 k).ro, .float .f64 (Q2 k).r13] rfl rfl hX9 (by kernel_rfl) (by kernel_rfl) ?_; simp only [go_sem]) | (at_builtin; refine wpList_runX 22 rfl (.tmp 30) (.tmp 32) rfl rfl rfl a1 ?_) | go_values | go_skip | go_guarded | go_step | go_upon | go_back | dsimp only)
        refine ⟨⟨k + 1, by omega, by go_num, ?_, a4 w (bl_trans (bl_trans hB hB3) B5) (Nat.le_refl _)⟩, by simp [intOf]; omega⟩
        rw [jo_snoc, esh]
        exact a2
      · have esh : shR rn (Q2 k) = Q2 k := by unfold shR; rw [if_neg ho]
        have hz3 : ((wr.alloc (.cells #[.int .i64 0, .int .i64 0, .float .f64 0, .float .f64 0, .float .f64 0, .float .f64 0, .float .f64 0, .float .f64 0, .float .f64 0, .float .f64 0, .float .f64 0, .float .f64 0, .int .i64 0, .float .f64 0] 56)).setCells wr.heap.size 0 [.int .i64 (Q2 k).ra, .int .i64 (Q2 k).rb, .float .f64 (Q2 k).r2, .float .f64 (Q2 k).r3, .float .f64 (Q2 k).r4, .float .f64 (Q2 k).r5, .float .f64 (Q2 k).r6, .float .f64 (Q2 k).r7, .float .f64 (Q2 k).r8, .float .f64 (Q2 k).r9, .float .f64 (Q2 k).r10, .float .f64 (Q2 k).r11, .int .i64 (Q2 k).ro, .float .f64 (Q2 k).r13]).heap.size = wr.heap.size + 1 := by simp only [World.size_setCell, size_setsJ, World.size_alloc]
        have B5 : Bel ((wr.alloc (.cells #[.int .i64 0, .int .i64 0, .float .f64 0, .float .f64 0, .float .f64 0, .float .f64 0, .float .f64 0, .float .f64 0, .float .f64 0, .float .f64 0, .float .f64 0, .float .f64 0, .int .i64 0, .float .f64 0] 56)).setCells wr.heap.size 0 [.int .i64 (Q2 k).ra, .int .i64 (Q2 k).rb, .float .f64 (Q2 k).r2, .float .f64 (Q2 k).r3, .float .f64 (Q2 k).r4, .float .f64 (Q2 k).r5, .float .f64 (Q2 k).r6, .float .f64 (Q2 k).r7, .float .f64 (Q2 k).r8, .float .f64 (Q2 k).r9, .float .f64 (Q2 k).r10, .float .f64 (Q2 k).r11, .int .i64 (Q2 k).ro, .float .f64 (Q2 k).r13]) (((wr.alloc (.cells #[.int .i64 0, .int .i64 0, .float .f64 0, .float .f64 0, .float .f64 0, .float .f64 0, .float .f64 0, .float .f64 0, .float .f64 0, .float .f64 0, .float .f64 0, .float .f64 0, .int .i64 0, .float .f64 0] 56)).setCells wr.heap.size 0 [.int .i64 (Q2 k).ra, .int .i64 (Q2 k).rb, .float .f64 (Q2 k).r2, .float .f64 (Q2 k).r3, .float .f64 (Q2 k).r4, .float .f64 (Q2 k).r5, .float .f64 (Q2 k).r6, .float .f64 (Q2 k).r7, .float .f64 (Q2 k).r8, .float .f64 (Q2 k).r9, .float .f64 (Q2 k).r10, .float .f64 (Q2 k).r11, .int .i64 (Q2 k).ro, .float .f64 (Q2 k).r13]).alloc (.cells #[.int .i64 (Q2 k).ra, .int .i64 (Q2 k).rb, .float .f64 (Q2 k).r2, .float .f64 (Q2 k).r3, .float .f64 (Q2 k).r4, .float .f64 (Q2 k).r5, .float .f64 (Q2 k).r6, .float .f64 (Q2 k).r7, .float .f64 (Q2 k).r8, .float .f64 (Q2 k).r9, .float .f64 (Q2 k).r10, .float .f64 (Q2 k).r11, .int .i64 (Q2 k).ro, .float .f64 (Q2 k).r13] 56)) := bl_alloc (bl_refl _) _ _
        have hN : Rw (((wr.alloc (.cells #[.int .i64 0, .int .i64 0, .float .f64 0, .float .f64 0, .float .f64 0, .float .f64 0, .float .f64 0, .float .f64 0, .float .f64 0, .float .f64 0, .float .f64 0, .float .f64 0, .int .i64 0, .float .f64 0] 56)).setCells wr.heap.size 0 [.int .i64 (Q2 k).ra, .int .i64 (Q2 k).rb, .float .f64 (Q2 k).r2, .float .f64 (Q2 k).r3, .float .f64 (Q2 k).r4, .float .f64 (Q2 k).r5, .float .f64 (Q2 k).r6, .float .f64 (Q2 k).r7, .float .f64 (Q2 k).r8, .float .f64 (Q2 k).r9, .float .f64 (Q2 k).r10, .float .f64 (Q2 k).r11, .int .i64 (Q2 k).ro, .float .f64 (Q2 k).r13]).alloc (.cells #[.int .i64 (Q2 k).ra, .int .i64 (Q2 k).rb, .float .f64 (Q2 k).r2, .float .f64 (Q2 k).r3, .float .f64 (Q2 k).r4, .float .f64 (Q2 k).r5, .float .f64 (Q2 k).r6, .float .f64 (Q2 k).r7, .float .f64 (Q2 k).r8, .float .f64 (Q2 k).r9, .float .f64 (Q2 k).r10, .float .f64 (Q2 k).r11, .int .i64 (Q2 k).ro, .float .f64 (Q2 k).r13] 56)) (wr.heap.size + 1) 0 [.int .i64 (Q2 k).ra, .int .i64 (Q2 k).rb, .float .f64 (Q2 k).r2, .float .f64 (Q2 k).r3, .float .f64 (Q2 k).r4, .float .f64 (Q2 k).r5, .float .f64 (Q2 k).r6, .float .f64 (Q2 k).r7, .float .f64 (Q2 k).r8, .float .f64 (Q2 k).r9, .float .f64 (Q2 k).r10, .float .f64 (Q2 k).r11, .int .i64 (Q2 k).ro, .float .f64 (Q2 k).r13] := fun q u hq9 => by
          have h := rng_new ((wr.alloc (.cells #[.int .i64 0, .int .i64 0, .float .f64 0, .float .f64 0, .float .f64 0, .float .f64 0, .float .f64 0, .float .f64 0, .float .f64 0, .float .f64 0, .float .f64 0, .float .f64 0, .int .i64 0, .float .f64 0] 56)).setCells wr.heap.size 0 [.int .i64 (Q2 k).ra, .int .i64 (Q2 k).rb, .float .f64 (Q2 k).r2, .float .f64 (Q2 k).r3, .float .f64 (Q2 k).r4, .float .f64 (Q2 k).r5, .float .f64 (Q2 k).r6, .float .f64 (Q2 k).r7, .float .f64 (Q2 k).r8, .float .f64 (Q2 k).r9, .float .f64 (Q2 k).r10, .float .f64 (Q2 k).r11, .int .i64 (Q2 k).ro, .float .f64 (Q2 k).r13]) [.int .i64 (Q2 k).ra, .int .i64 (Q2 k).rb, .float .f64 (Q2 k).r2, .float .f64 (Q2 k).r3, .float .f64 (Q2 k).r4, .float .f64 (Q2 k).r5, .float .f64 (Q2 k).r6, .float .f64 (Q2 k).r7, .float .f64 (Q2 k).r8, .float .f64 (Q2 k).r9, .float .f64 (Q2 k).r10, .float .f64 (Q2 k).r11, .int .i64 (Q2 k).ro, .float .f64 (Q2 k).r13] 56 q u hq9
          rw [hz3] at h
          exact h
        obtain ⟨v', w', a1, a2, _, a4⟩ := run_appR (P := Try.prog) 22 22 56 Try.underlying22 info_row rfl (wr.heap.size + 1) 0 1 1 (hO.bel (bl_trans hB2 B5)) (N := [.int .i64 (Q2 k).ra, .int .i64 (Q2 k).rb, .float .f64 (Q2 k).r2, .float .f64 (Q2 k).r3, .float .f64 (Q2 k).r4, .float .f64 (Q2 k).r5, .float .f64 (Q2 k).r6, .float .f64 (Q2 k).r7, .float .f64 (Q2 k).r8, .float .f64 (Q2 k).r9, .float .f64 (Q2 k).r10, .float .f64 (Q2 k).r11, .int .i64 (Q2 k).ro, .float .f64 (Q2 k).r13]) rfl hN (by intro u hu; simp only [List.mem_cons, List.not_mem_nil, or_false] at hu; rcases hu with rfl | rfl | rfl | rfl | rfl | rfl | rfl | rfl | rfl | rfl | rfl | rfl | rfl | rfl <;> rfl) (by decide) (by have := (bl_trans hB2 B5).size; omega) (by unfold maxLen; omega) (by omega)
        repeat (first | (with_reducible show Oper.wp _ _ _ _ _ _; refine wp_load_mid (P := Try.prog) 56 _ rfl (wr.heap.size) 0 rfl [.int .i64 (Q2 k).ra, .int .i64 (Q2 k).rb, .float .f64 (Q2 k).r2, .float .f64 (Q2 k).r3, .float .f64 (Q2 k).r4, .float .f64 (Q2 k).r5, .float .f64 (Q2 k).r6, .float .f64 (Q2 k).r7, .float .f64 (Q2 k).r8, .float .f64 (Q2 k).r9, .float .f64 (Q2 k).r10, .float .f64 (Q2 k).r11, .int .i64 (Q2 k).ro, .float .f64 (Q2 k).r13] _ (by with_reducible assumption) Try.underlying56 rfl (by kernel_rfl) ?_; simp only [go_sem]) | ((with_reducible show Oper.wp _ { dst := _, op := Op.load 56 _, type := _, pos := _, after := _, guard := _ } _ _ _ _); refine wp_load_mid (P := Try.prog) 56 _ rfl _ _ rfl [.int .i64 (Q2 k).ra, .int .i64 (Q2 k).rb, .float .f64 (Q2 k).r2, .float .f64 (Q2 k).r3, .float .f64 (Q2 k).r4, .float .f64 (Q2 k).r5, .float .f64 (Q2 k).r6, .float .f64 (Q2 k).r7, .float .f64 (Q2 k).r8, .float .f64 (Q2 k).r9, .float .f64 (Q2 k).r10, .float .f64 (Q2 k).r11, .int .i64 (Q2 k).ro, .float .f64 (Q2 k).r13] _ hld Try.underlying56 rfl (by kernel_rfl) ?_; simp only [go_sem]) | ((with_reducible show Oper.wp _ { dst := _, op := Op.store 56 _ _, type := _, pos := _, after := _, guard := _ } _ _ _ _); refine wp_store_mid (P := Try.prog) 56 _ _ rfl (wr.heap.size) (0) #[.int .i64 (Q2 k).ra, .int .i64 (Q2 k).rb, .float .f64 (Q2 k).r2, .float .f64 (Q2 k).r3, .float .f64 (Q2 k).r4, .float .f64 (Q2 k).r5, .float .f64 (Q2 k).r6, .float .f64 (Q2 k).r7, .float .f64 (Q2 k).r8, .float .f64 (Q2 k).r9, .float .f64 (Q2 k).r10, .float .f64 (Q2 k).r11, .int .i64 (Q2 k).ro, .float .f64 (Q2 k).r13] rfl rfl hX9 (by kernel_rfl) (by kernel_rfl) ?_; simp only [go_sem]) | (at_builtin; refine wpList_runX 22 rfl (.tmp 30) (.tmp 32) rfl rfl rfl a1 ?_) | go_values | go_skip | go_guarded | go_step | go_upon | go_back | dsimp only)
        refine ⟨⟨k + 1, by omega, by go_num, ?_, a4 w (bl_trans (bl_trans hB hB2) B5) (Nat.le_refl _)⟩, by simp [intOf]; omega⟩
        rw [jo_snoc, esh]
        exact a2
    · have hkn : k = qn := by omega
      subst hkn
      repeat (first | go_values | go_skip | go_guarded | go_step | go_upon | go_back | dsimp only)
      go_ret
      exact ⟨_, hO, rfl, hB⟩

end Go.Proofs.Ytchfgaooogfkdaa
