/-
  What each function of package poly answers, and what the reference of its chapter answers: one contract a function, for every float: the answer stands in the relation of its formula to what was given; of the memory that was there nothing has turned.
-/
import Derived.Test.YtfohggiehbplkaaVec
import Derived.Test.YtfohggiehbplkaaWm
import Derived.Test.YtfohggiehbplkaaKnot
import Derived.Below
import Derived.OwnWalk
import Derived.Laws.AppendOwn
import Derived.Lib.SliceRun
import Derived.Laws.MakeOwn
import Derived.WalkKit
import Derived.WalkLawsBesides
import Derived.WalkSpells
import Derived.ProofKit
import Derived.OpenShut
import Derived.Deep.RegionHeld3
namespace Go.Proofs.Ytfohggiehbplkaa
open Go.ChangeShapes Go.WideShapes Go.ChangeAt Go.RowKit
set_option linter.unusedVariables false
set_option linter.unusedSimpArgs false


def rc (R : RD) : List Value := [.int .i64 R.ra, .int .i64 R.rb, .float .f64 R.r2, .float .f64 R.r3, .float .f64 R.r4, .float .f64 R.r5, .float .f64 R.r6, .float .f64 R.r7, .float .f64 R.r8, .float .f64 R.r9, .float .f64 R.r10, .float .f64 R.r11, .int .i64 R.ro, .float .f64 R.r13]
def sc (s : SD) : List Value := [.float .f64 s.sm, .float .f64 s.si, .float .f64 s.sx, .float .f64 s.sy, .float .f64 s.ss]
/-- rows, stills that lie one behind the other -/
def Rws (w : World) (b off n : Nat) (Q : Nat → RD) : Prop := ∀ i, i < n → w.rangeAt b (off + i * 14) (rc (Q i))
def Sts (w : World) (b off n : Nat) (S : Nat → SD) : Prop := ∀ i, i < n → w.rangeAt b (off + i * 5) (sc (S i))
theorem Rws.bel {w w' : World} {b off n : Nat} {Q : Nat → RD} (h : Rws w b off n Q) (g : Bel w w') : Rws w' b off n Q := fun i hi => rng_bel (h i hi) g
theorem Sts.bel {w w' : World} {b off n : Nat} {S : Nat → SD} (h : Sts w b off n S) (g : Bel w w') : Sts w' b off n S := fun i hi => rng_bel (h i hi) g
/-- can a still be moved -/
def mvB (s : SD) : Bool := ltK .f64 0 s.sm || ltK .f64 0 s.si
def anyN (p : Nat → Bool) : Nat → Bool
 | 0 => false
 | k + 1 => anyN p k || p k
theorem anyN_at {p : Nat → Bool} {k : Nat} (h : p k = true) : ∀ {n : Nat}, k < n → anyN p n = true
 | 0, hk => by omega
 | n + 1, hk => by
  unfold anyN
  rcases Nat.lt_or_ge k n with g | g
  ·rw [anyN_at h g]; rfl
  ·have e : k = n := by omega
   subst e; rw [h]; simp
def crB (Q : Nat → RD) (n m : Int) : Nat → Bool
 | 0 => true
 | k + 1 => crB Q n m k && chB (Q k) n m
theorem crB_no {Q : Nat → RD} {n m : Int} {k : Nat} (h : chB (Q k) n m = false) : ∀ {j : Nat}, k < j → crB Q n m j = false
 | 0, hk => by omega
 | j + 1, hk => by
  unfold crB
  rcases Nat.lt_or_ge k j with g | g
  ·rw [crB_no h g]; rfl
  ·have e : k = j := by omega
   subst e; rw [h]; simp
theorem crB_all {Q : Nat → RD} {n m : Int} : ∀ {j : Nat}, crB Q n m j = true → ∀ k, k < j → chB (Q k) n m = true
 | 0, _, k, hk => by omega
 | j + 1, h, k, hk => by
  unfold crB at h
  rw [Bool.and_eq_true] at h
  rcases Nat.lt_or_ge k j with g | g
  ·exact crB_all h.1 k g
  ·have e : k = j := by omega
   subst e; exact h.2
/-- what the chapter calls Asked -/
def asE (Q : Nat → RD) (n : Nat) (S : Nat → SD) (m : Nat) : Int := if 1048576 < n ∨ 1024 < m then 4 else bif crB Q n m n && !anyN (fun i => !stB (S i)) m then 0 else 200
set_option maxRecDepth 100000 in
set_option maxHeartbeats 4000000 in
theorem canMove_w (s : SD) (w : World) : Calls Try.prog 119 #[.agg #[.float .f64 s.sm, .float .f64 s.si, .float .f64 s.sx, .float .f64 s.sy, .float .f64 s.ss]] w fun e w' => e = .returned (.bool (mvB s)) ∧ Bel w w' := by
 have c1 := cmp_gt .f64
 have hA : (w.alloc (.cells #[.float .f64 s.sm, .float .f64 s.si, .float .f64 s.sx, .float .f64 s.sy, .float .f64 s.ss] 45)).rangeAt w.heap.size 0 [.float .f64 s.sm, .float .f64 s.si, .float .f64 s.sx, .float .f64 s.sy, .float .f64 s.ss] := rng_new w [.float .f64 s.sm, .float .f64 s.si, .float .f64 s.sx, .float .f64 s.sy, .float .f64 s.ss] 45
 have k0 : (w.alloc (.cells #[.float .f64 s.sm, .float .f64 s.si, .float .f64 s.sx, .float .f64 s.sy, .float .f64 s.ss] 45)).cell? ⟨w.heap.size, 0, none⟩ = some (.float .f64 s.sm) := hA 0 _ rfl
 have k1 : (w.alloc (.cells #[.float .f64 s.sm, .float .f64 s.si, .float .f64 s.sx, .float .f64 s.sy, .float .f64 s.ss] 45)).cell? ⟨w.heap.size, 1, none⟩ = some (.float .f64 s.si) := hA 1 _ rfl
 have B0 : Bel w (w.alloc (.cells #[.float .f64 s.sm, .float .f64 s.si, .float .f64 s.sx, .float .f64 s.sy, .float .f64 s.ss] 45)) := bl_alloc (bl_refl w) _ _
 unfold mvB
 cases h1 : ltK .f64 0 s.sm
 ·cases h2 : ltK .f64 0 s.si
  all_goals
   go_enter Try.func119, Try.ntmps119
   repeat (first | go_values | go_skip | go_guarded | go_step | go_upon | go_back | dsimp only)
   go_ret
   exact ⟨rfl, B0⟩
 ·go_enter Try.func119, Try.ntmps119
  repeat (first | go_values | go_skip | go_guarded | go_step | go_upon | go_back | dsimp only)
  go_ret
  exact ⟨rfl, B0⟩
theorem er_1 (s : SD) : erF (⟨0, 1, 0, 0, 0, 0, 0, 0, 0, 0, 0, 0, 0, 0⟩ : RD) s Z5S = bif stB s then 0 else 200 := by
 unfold erF alB
 rw [show mayB (⟨0, 1, 0, 0, 0, 0, 0, 0, 0, 0, 0, 0, 0, 0⟩ : RD) = true by decide +kernel, show stB Z5S = true by decide +kernel]
 simp
set_option maxRecDepth 100000 in
set_option maxHeartbeats 4000000 in
theorem isNoStill_w (s : SD) (w : World) (os : sok s) : Calls Try.prog 114 #[.agg #[.float .f64 s.sm, .float .f64 s.si, .float .f64 s.sx, .float .f64 s.sy, .float .f64 s.ss]] w fun e w' => e = .returned (.bool (!stB s)) ∧ Bel w w' := by
 have hA : (w.alloc (.cells #[.float .f64 s.sm, .float .f64 s.si, .float .f64 s.sx, .float .f64 s.sy, .float .f64 s.ss] 45)).rangeAt w.heap.size 0 [.float .f64 s.sm, .float .f64 s.si, .float .f64 s.sx, .float .f64 s.sy, .float .f64 s.ss] := rng_new w [.float .f64 s.sm, .float .f64 s.si, .float .f64 s.sx, .float .f64 s.sy, .float .f64 s.ss] 45
 have B0 : Bel w (w.alloc (.cells #[.float .f64 s.sm, .float .f64 s.si, .float .f64 s.sx, .float .f64 s.sy, .float .f64 s.ss] 45)) := bl_alloc (bl_refl w) _ _
 have oK : rok (⟨0, 1, 0, 0, 0, 0, 0, 0, 0, 0, 0, 0, 0, 0⟩ : RD) := z14_is.1
 have oZ : sok ⟨0, 0, 0, 0, 0⟩ := z5_is.1
 go_enter Try.func114, Try.ntmps114
 repeat (first | ((with_reducible show Oper.wp _ ⟨_, Op.build 43 _, _, _, _, _⟩ _ _ _ _); refine wp_build 43 _ rfl (.agg #[.int .i64 0, .int .i64 1, .float .f64 0, .float .f64 0, .float .f64 0, .float .f64 0, .float .f64 0, .float .f64 0, .float .f64 0, .float .f64 0, .float .f64 0, .float .f64 0, .int .i64 0, .float .f64 0]) (by kernel_rfl) ?_; simp only [go_sem]) | (with_reducible show Oper.wp _ _ _ _ _ _; refine wp_load_mid (P := Try.prog) 45 _ rfl (w.heap.size) 0 rfl [.float .f64 s.sm, .float .f64 s.si, .float .f64 s.sx, .float .f64 s.sy, .float .f64 s.ss] _ (by with_reducible assumption) Try.underlying45 rfl (by kernel_rfl) ?_; simp only [go_sem]) | ((with_reducible show Oper.wp _ ⟨_, Op.build 45 _, _, _, _, _⟩ _ _ _ _); refine wp_build 45 _ rfl (.agg #[.float .f64 0, .float .f64 0, .float .f64 0, .float .f64 0, .float .f64 0]) (by kernel_rfl) ?_; simp only [go_sem]) | (go_at_call 17; (with_reducible refine (wgt_any (⟨0, 1, 0, 0, 0, 0, 0, 0, 0, 0, 0, 0, 0, 0⟩ : RD) s ⟨0, 0, 0, 0, 0⟩ _ oK os oZ).mono ?_); rintro e w' ⟨r, hr, rfl, hb⟩; have e9 : erF (⟨0, 1, 0, 0, 0, 0, 0, 0, 0, 0, 0, 0, 0, 0⟩ : RD) s ⟨0, 0, 0, 0, 0⟩ = bif stB s then 0 else 200 := er_1 s; rw [e9]; cases h : stB s <;> simp only [cond_true, cond_false]) | go_values | go_skip | go_guarded | go_step | go_upon | go_back | dsimp only)
 all_goals
  repeat (first | go_values | go_skip | go_guarded | go_step | go_upon | go_back | dsimp only)
  go_ret
  exact ⟨by first | rfl | (rw [h]; rfl) | simp [h], bl_trans B0 hb⟩

set_option maxRecDepth 100000 in
set_option maxHeartbeats 4000000 in
theorem idxS_w (sb so sn sc_ : Nat) (ss : Option Addr) (S : Nat → SD) (w : World) (hss : sn = 0 ∨ ss = some ⟨sb, so, none⟩) (hsc : sn ≤ sc_) (hsm : sc_ ≤ maxLen) (hs : Sts w sb so sn S) (os : ∀ i, i < sn → sok (S i)) : Calls Try.prog 145 #[.slice ss sn sc_, .func (.func 114) #[] #[]] w fun e w' => ∃ r : Int, decide (0 ≤ r) = anyN (fun i => !stB (S i)) sn ∧ e = .returned (.int .i64 r) ∧ Bel w w' := by
 unfold maxLen at hsm
 go_enter Try.func145, Try.ntmps145
 go_wp2
 go_loopw [8] (fun i wr => ∃ k : Nat, k ≤ sn ∧ i = .int .i64 k ∧ Bel w wr ∧ anyN (fun i => !stB (S i)) k = false) (fun i _ => sn - (intOf i).toNat)
 case atStart => exact ⟨0, by omega, rfl, bl_refl _, rfl⟩
 case round =>
  obtain ⟨k, hk, rfl, hB, hq⟩ := hrel
  by_cases hlt : k < sn
  ·have e9 : ss = some ⟨sb, so, none⟩ := by rcases hss with h | h; omega; exact h
   subst e9
   have hld : wr.rangeAt sb (so + k * 5) [.float .f64 (S k).sm, .float .f64 (S k).si, .float .f64 (S k).sx, .float .f64 (S k).sy, .float .f64 (S k).ss] := (hs.bel hB) k hlt
   have hok := os k hlt
   have hkI : (k : Int) < (sn : Int) := by omega
   have hcI : (k : Int) < (sc_ : Int) := by omega
   repeat (first | ((with_reducible show Oper.wp _ ⟨_, Op.load 45 _, _, _, _, _⟩ _ _ _ _); refine wp_load_mid (P := Try.prog) 45 _ rfl _ _ rfl [.float .f64 (S k).sm, .float .f64 (S k).si, .float .f64 (S k).sx, .float .f64 (S k).sy, .float .f64 (S k).ss] _ hld Try.underlying45 rfl (by kernel_rfl) ?_; simp only [go_sem]) | (go_at_call 114; (with_reducible refine (isNoStill_w (S k) _ hok).mono ?_); rintro e w' ⟨rfl, hb⟩; cases h : stB (S k) <;> simp only [Bool.not_true, Bool.not_false]) | go_values | go_skip | go_guarded | go_step | go_upon | go_back | dsimp only)
   ·repeat (first | go_values | go_skip | go_guarded | go_step | go_upon | go_back | dsimp only)
    go_ret
    refine ⟨k, ?_, rfl, bl_trans hB hb⟩
    rw [anyN_at (p := fun i => !stB (S i)) (by simp [h]) hlt]
    simp
   ·repeat (first | go_values | go_skip | go_guarded | go_step | go_upon | go_back | dsimp only)
    refine ⟨⟨k + 1, by omega, by go_num, bl_trans hB hb, ?_⟩, by simp [intOf]; omega⟩
    unfold anyN
    rw [hq]
    simp [h]
  ·have hkn : k = sn := by omega
   subst hkn
   repeat (first | go_values | go_skip | go_guarded | go_step | go_upon | go_back | dsimp only)
   go_ret
   exact ⟨-1, by rw [hq]; rfl, rfl, hB⟩
set_option maxRecDepth 100000 in
set_option maxHeartbeats 4000000 in
theorem hasS_w (sb so sn sc_ : Nat) (ss : Option Addr) (S : Nat → SD) (w : World) (hss : sn = 0 ∨ ss = some ⟨sb, so, none⟩) (hsc : sn ≤ sc_) (hsm : sc_ ≤ maxLen) (hs : Sts w sb so sn S) (os : ∀ i, i < sn → sok (S i)) : Calls Try.prog 113 #[.slice ss sn sc_, .func (.func 114) #[] #[]] w fun e w' => e = .returned (.bool (anyN (fun i => !stB (S i)) sn)) ∧ Bel w w' := by
 go_enter Try.func113, Try.ntmps113
 go_wp2_with (first | (go_at_call 145; (with_reducible refine (idxS_w sb so sn sc_ ss S _ hss hsc hsm hs os).mono ?_); rintro e w' ⟨r, hr, rfl, hb⟩))
 go_ret
 exact ⟨by rw [← hr]; rfl, hb⟩

set_option maxRecDepth 100000 in
set_option maxHeartbeats 4000000 in
theorem checkRows_w (rb ro rn rc_ : Nat) (rs : Option Addr) (Q : Nat → RD) (m : Int) (w : World) (hrs : rn = 0 ∨ rs = some ⟨rb, ro, none⟩) (hrc : rn ≤ rc_) (hrm : rc_ ≤ maxLen) (hr : Rws w rb ro rn Q) (or_ : ∀ i, i < rn → rok (Q i)) : Calls Try.prog 110 #[.slice rs rn rc_, .int .i64 m] w fun e w' => e = .returned (.int .i64 (bif crB Q rn m rn then 0 else 200)) ∧ Bel w w' := by
 unfold maxLen at hrm
 go_enter Try.func110, Try.ntmps110
 go_wp2
 go_loopw [10] (fun i wr => ∃ k : Nat, k ≤ rn ∧ i = .int .i64 k ∧ Bel w wr ∧ crB Q rn m k = true) (fun i _ => rn - (intOf i).toNat)
 case atStart => exact ⟨0, by omega, rfl, bl_refl _, rfl⟩
 case round =>
  obtain ⟨k, hk, rfl, hB, hq⟩ := hrel
  by_cases hlt : k < rn
  ·have e9 : rs = some ⟨rb, ro, none⟩ := by rcases hrs with h | h; omega; exact h
   subst e9
   have hld : wr.rangeAt rb (ro + k * 14) [.int .i64 (Q k).ra, .int .i64 (Q k).rb, .float .f64 (Q k).r2, .float .f64 (Q k).r3, .float .f64 (Q k).r4, .float .f64 (Q k).r5, .float .f64 (Q k).r6, .float .f64 (Q k).r7, .float .f64 (Q k).r8, .float .f64 (Q k).r9, .float .f64 (Q k).r10, .float .f64 (Q k).r11, .int .i64 (Q k).ro, .float .f64 (Q k).r13] := (hr.bel hB) k hlt
   have hkI : (k : Int) < (rn : Int) := by omega
   have hcI : (k : Int) < (rc_ : Int) := by omega
   have hX : (wr.alloc (.cells #[.int .i64 0, .int .i64 0, .float .f64 0, .float .f64 0, .float .f64 0, .float .f64 0, .float .f64 0, .float .f64 0, .float .f64 0, .float .f64 0, .float .f64 0, .float .f64 0, .int .i64 0, .float .f64 0] 43)).there wr.heap.size 0 14 := there_new wr [.int .i64 0, .int .i64 0, .float .f64 0, .float .f64 0, .float .f64 0, .float .f64 0, .float .f64 0, .float .f64 0, .float .f64 0, .float .f64 0, .float .f64 0, .float .f64 0, .int .i64 0, .float .f64 0] 43
   have hY : ((wr.alloc (.cells #[.int .i64 0, .int .i64 0, .float .f64 0, .float .f64 0, .float .f64 0, .float .f64 0, .float .f64 0, .float .f64 0, .float .f64 0, .float .f64 0, .float .f64 0, .float .f64 0, .int .i64 0, .float .f64 0] 43)).setCells wr.heap.size 0 [.int .i64 (Q k).ra, .int .i64 (Q k).rb, .float .f64 (Q k).r2, .float .f64 (Q k).r3, .float .f64 (Q k).r4, .float .f64 (Q k).r5, .float .f64 (Q k).r6, .float .f64 (Q k).r7, .float .f64 (Q k).r8, .float .f64 (Q k).r9, .float .f64 (Q k).r10, .float .f64 (Q k).r11, .int .i64 (Q k).ro, .float .f64 (Q k).r13]).rangeAt wr.heap.size 0 [.int .i64 (Q k).ra, .int .i64 (Q k).rb, .float .f64 (Q k).r2, .float .f64 (Q k).r3, .float .f64 (Q k).r4, .float .f64 (Q k).r5, .float .f64 (Q k).r6, .float .f64 (Q k).r7, .float .f64 (Q k).r8, .float .f64 (Q k).r9, .float .f64 (Q k).r10, .float .f64 (Q k).r11, .int .i64 (Q k).ro, .float .f64 (Q k).r13] := World.rangeAt_setCells_same _ _ _ _ hX
   have hB2 : Bel w ((wr.alloc (.cells #[.int .i64 0, .int .i64 0, .float .f64 0, .float .f64 0, .float .f64 0, .float .f64 0, .float .f64 0, .float .f64 0, .float .f64 0, .float .f64 0, .float .f64 0, .float .f64 0, .int .i64 0, .float .f64 0] 43)).setCells wr.heap.size 0 [.int .i64 (Q k).ra, .int .i64 (Q k).rb, .float .f64 (Q k).r2, .float .f64 (Q k).r3, .float .f64 (Q k).r4, .float .f64 (Q k).r5, .float .f64 (Q k).r6, .float .f64 (Q k).r7, .float .f64 (Q k).r8, .float .f64 (Q k).r9, .float .f64 (Q k).r10, .float .f64 (Q k).r11, .int .i64 (Q k).ro, .float .f64 (Q k).r13]) := bel_setsJ _ _ (bl_alloc hB _ _) hB.size
   repeat (first | (with_reducible show Oper.wp _ _ _ _ _ _; refine wp_load_mid (P := Try.prog) 43 _ rfl (wr.heap.size) 0 rfl [.int .i64 (Q k).ra, .int .i64 (Q k).rb, .float .f64 (Q k).r2, .float .f64 (Q k).r3, .float .f64 (Q k).r4, .float .f64 (Q k).r5, .float .f64 (Q k).r6, .float .f64 (Q k).r7, .float .f64 (Q k).r8, .float .f64 (Q k).r9, .float .f64 (Q k).r10, .float .f64 (Q k).r11, .int .i64 (Q k).ro, .float .f64 (Q k).r13] _ (by with_reducible assumption) Try.underlying43 rfl (by kernel_rfl) ?_; simp only [go_sem]) | ((with_reducible show Oper.wp _ ⟨_, Op.load 43 _, _, _, _, _⟩ _ _ _ _); refine wp_load_mid (P := Try.prog) 43 _ rfl _ _ rfl [.int .i64 (Q k).ra, .int .i64 (Q k).rb, .float .f64 (Q k).r2, .float .f64 (Q k).r3, .float .f64 (Q k).r4, .float .f64 (Q k).r5, .float .f64 (Q k).r6, .float .f64 (Q k).r7, .float .f64 (Q k).r8, .float .f64 (Q k).r9, .float .f64 (Q k).r10, .float .f64 (Q k).r11, .int .i64 (Q k).ro, .float .f64 (Q k).r13] _ hld Try.underlying43 rfl (by kernel_rfl) ?_; simp only [go_sem]) | ((with_reducible show Oper.wp _ ⟨_, Op.store 43 _ _, _, _, _, _⟩ _ _ _ _); refine wp_store_mid (P := Try.prog) 43 _ _ rfl (wr.heap.size) (0) #[.int .i64 (Q k).ra, .int .i64 (Q k).rb, .float .f64 (Q k).r2, .float .f64 (Q k).r3, .float .f64 (Q k).r4, .float .f64 (Q k).r5, .float .f64 (Q k).r6, .float .f64 (Q k).r7, .float .f64 (Q k).r8, .float .f64 (Q k).r9, .float .f64 (Q k).r10, .float .f64 (Q k).r11, .int .i64 (Q k).ro, .float .f64 (Q k).r13] rfl rfl hX (by kernel_rfl) (by kernel_rfl) ?_; simp only [go_sem]) | (go_at_call 46; (with_reducible refine (check_w (Q k) rn m _).mono ?_); rintro e w' ⟨rfl, hb⟩; cases h : chB (Q k) rn m <;> simp only [cond_true, cond_false]) | go_values | go_skip | go_guarded | go_step | go_upon | go_back | dsimp only)
   ·repeat (first | go_values | go_skip | go_guarded | go_step | go_upon | go_back | dsimp only)
    go_ret
    exact ⟨by rw [crB_no h hlt]; rfl, bl_trans hB2 hb⟩
   ·repeat (first | go_values | go_skip | go_guarded | go_step | go_upon | go_back | dsimp only)
    refine ⟨⟨k + 1, by omega, by go_num, bl_trans hB2 hb, ?_⟩, by simp [intOf]; omega⟩
    unfold crB
    rw [hq, h]; rfl
  ·have hkn : k = rn := by omega
   subst hkn
   repeat (first | go_values | go_skip | go_guarded | go_step | go_upon | go_back | dsimp only)
   go_ret
   exact ⟨by rw [hq]; rfl, hB⟩

set_option maxRecDepth 100000 in
set_option maxHeartbeats 4000000 in
theorem check_t (rb ro rn rc_ : Nat) (rs : Option Addr) (Q : Nat → RD) (sb so sn sc_ : Nat) (ss : Option Addr) (S : Nat → SD) (w : World) (hrs : rn = 0 ∨ rs = some ⟨rb, ro, none⟩) (hrc : rn ≤ rc_) (hrm : rc_ ≤ maxLen) (hr : Rws w rb ro rn Q) (or_ : ∀ i, i < rn → rok (Q i)) (hss : sn = 0 ∨ ss = some ⟨sb, so, none⟩) (hsc : sn ≤ sc_) (hsm : sc_ ≤ maxLen) (hs : Sts w sb so sn S) (os : ∀ i, i < sn → sok (S i)) : Calls Try.prog 71 #[.agg #[.slice rs rn rc_, .slice ss sn sc_]] w fun e w' => e = .returned (.int .i64 (asE Q rn S sn)) ∧ Bel w w' := by
 have B0 : Bel w (w.alloc (.cells #[.slice rs rn rc_, .slice ss sn sc_] 116)) := bl_alloc (bl_refl w) _ _
 have hT : (w.alloc (.cells #[.slice rs rn rc_, .slice ss sn sc_] 116)).rangeAt w.heap.size 0 [.slice rs rn rc_, .slice ss sn sc_] := rng_new w [.slice rs rn rc_, .slice ss sn sc_] 116
 have k0 : (w.alloc (.cells #[.slice rs rn rc_, .slice ss sn sc_] 116)).cell? ⟨w.heap.size, 0, none⟩ = some (.slice rs rn rc_) := hT 0 _ rfl
 have k1 : (w.alloc (.cells #[.slice rs rn rc_, .slice ss sn sc_] 116)).cell? ⟨w.heap.size, 1, none⟩ = some (.slice ss sn sc_) := hT 1 _ rfl
 unfold asE
 by_cases g1 : 1048576 < rn
 ·have g1I : (1048576 : Int) < (rn : Int) := by omega
  rw [if_pos (.inl g1)]
  go_enter Try.func71, Try.ntmps71
  repeat (first | go_values | go_skip | go_guarded | go_step | go_upon | go_back | dsimp only)
  go_ret
  exact ⟨rfl, B0⟩
 have g1I : ¬ (1048576 : Int) < (rn : Int) := by omega
 by_cases g2 : 1024 < sn
 ·have g2I : (1024 : Int) < (sn : Int) := by omega
  rw [if_pos (.inr g2)]
  go_enter Try.func71, Try.ntmps71
  repeat (first | go_values | go_skip | go_guarded | go_step | go_upon | go_back | dsimp only)
  go_ret
  exact ⟨rfl, B0⟩
 have g2I : ¬ (1024 : Int) < (sn : Int) := by omega
 rw [if_neg (by omega)]
 go_enter Try.func71, Try.ntmps71
 repeat (first | (go_at_call 110; (with_reducible refine (checkRows_w rb ro rn rc_ rs Q sn _ hrs hrc hrm (hr.bel B0) or_).mono ?_); rintro e w' ⟨rfl, hb⟩; have hs1 := (hs.bel B0).bel hb; have k2 := keep hb k1; cases h : crB Q rn sn rn <;> simp only [cond_true, cond_false]) | go_values | go_skip | go_guarded | go_step | go_upon | go_back | dsimp only)
 ·repeat (first | go_values | go_skip | go_guarded | go_step | go_upon | go_back | dsimp only)
  go_ret
  exact ⟨by rw [h]; rfl, bl_trans B0 hb⟩
 ·repeat (first | (go_at_call 113; (with_reducible refine (hasS_w sb so sn sc_ ss S _ hss hsc hsm hs1 os).mono ?_); rintro e w2 ⟨rfl, hb2⟩; cases h2 : anyN (fun i => !stB (S i)) sn <;> simp only [Bool.not_true, Bool.not_false, Bool.true_and, Bool.false_and, cond_true, cond_false]) | go_values | go_skip | go_guarded | go_step | go_upon | go_back | dsimp only)
  all_goals
   repeat (first | go_values | go_skip | go_guarded | go_step | go_upon | go_back | dsimp only)
   go_ret
   exact ⟨by rw [h, h2]; rfl, bl_trans (bl_trans B0 hb) hb2⟩

end Go.Proofs.Ytfohggiehbplkaa
