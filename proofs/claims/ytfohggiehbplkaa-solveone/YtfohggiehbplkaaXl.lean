/-
  What each function of package poly answers, and what the reference of its chapter answers: one contract a function, for every float: the answer stands in the relation of its formula to what was given; of the memory that was there nothing has turned.
-/
import Derived.Test.YtfohggiehbplkaaVec
import Derived.Test.YtfohggiehbplkaaXk
import Derived.Below
import Derived.OwnWalk
import Derived.Laws.AppendOwn
import Derived.Lib.SliceRun
import Derived.Laws.MakeOwn
import Derived.WalkKit
import Derived.WalkLawsBesides
import Derived.WalkSpells
import Derived.ProofKit
import Derived.OpenShut
import Derived.Deep.RegionHeld3
namespace Go.Proofs.Ytfohggiehbplkaa
open Go.ChangeShapes Go.WideShapes Go.ChangeAt Go.RowKit
set_option linter.unusedVariables false
set_option linter.unusedSimpArgs false


set_option maxRecDepth 100000 in
set_option maxHeartbeats 4000000 in
theorem clo_w (R : RD) (c g sn : Nat) (f : Nat → Bool) (w : World) (hc : w.cell? ⟨c, 0, none⟩ = some (.slice (some ⟨g, 0, none⟩) sn sn)) (hbo : ∀ i, i < sn → w.cell? ⟨g, i, none⟩ = some (.bool (f i))) (hm : sn ≤ 1024) (hA0 : 0 ≤ R.ra) (hA1 : R.ra < sn) (hB0 : 0 ≤ R.rb) (hB1 : R.rb < sn) : Calls Try.prog 108 #[.agg #[.int .i64 R.ra, .int .i64 R.rb, .float .f64 R.r2, .float .f64 R.r3, .float .f64 R.r4, .float .f64 R.r5, .float .f64 R.r6, .float .f64 R.r7, .float .f64 R.r8, .float .f64 R.r9, .float .f64 R.r10, .float .f64 R.r11, .int .i64 R.ro, .float .f64 R.r13], .pointer (some ⟨c, 0, none⟩)] w fun e w' => e = .returned (.bool (f R.ra.toNat || f R.rb.toNat)) ∧ Bel w w' := by
 have B0 : Bel w (w.alloc (.cells #[.int .i64 R.ra, .int .i64 R.rb, .float .f64 R.r2, .float .f64 R.r3, .float .f64 R.r4, .float .f64 R.r5, .float .f64 R.r6, .float .f64 R.r7, .float .f64 R.r8, .float .f64 R.r9, .float .f64 R.r10, .float .f64 R.r11, .int .i64 R.ro, .float .f64 R.r13] 43)) := bl_alloc (bl_refl w) _ _
 have hR : (w.alloc (.cells #[.int .i64 R.ra, .int .i64 R.rb, .float .f64 R.r2, .float .f64 R.r3, .float .f64 R.r4, .float .f64 R.r5, .float .f64 R.r6, .float .f64 R.r7, .float .f64 R.r8, .float .f64 R.r9, .float .f64 R.r10, .float .f64 R.r11, .int .i64 R.ro, .float .f64 R.r13] 43)).rangeAt w.heap.size 0 [.int .i64 R.ra, .int .i64 R.rb, .float .f64 R.r2, .float .f64 R.r3, .float .f64 R.r4, .float .f64 R.r5, .float .f64 R.r6, .float .f64 R.r7, .float .f64 R.r8, .float .f64 R.r9, .float .f64 R.r10, .float .f64 R.r11, .int .i64 R.ro, .float .f64 R.r13] := rng_new w [.int .i64 R.ra, .int .i64 R.rb, .float .f64 R.r2, .float .f64 R.r3, .float .f64 R.r4, .float .f64 R.r5, .float .f64 R.r6, .float .f64 R.r7, .float .f64 R.r8, .float .f64 R.r9, .float .f64 R.r10, .float .f64 R.r11, .int .i64 R.ro, .float .f64 R.r13] 43
 have k0 : (w.alloc (.cells #[.int .i64 R.ra, .int .i64 R.rb, .float .f64 R.r2, .float .f64 R.r3, .float .f64 R.r4, .float .f64 R.r5, .float .f64 R.r6, .float .f64 R.r7, .float .f64 R.r8, .float .f64 R.r9, .float .f64 R.r10, .float .f64 R.r11, .int .i64 R.ro, .float .f64 R.r13] 43)).cell? ⟨w.heap.size, 0, none⟩ = some (.int .i64 R.ra) := hR 0 _ rfl
 have k1 : (w.alloc (.cells #[.int .i64 R.ra, .int .i64 R.rb, .float .f64 R.r2, .float .f64 R.r3, .float .f64 R.r4, .float .f64 R.r5, .float .f64 R.r6, .float .f64 R.r7, .float .f64 R.r8, .float .f64 R.r9, .float .f64 R.r10, .float .f64 R.r11, .int .i64 R.ro, .float .f64 R.r13] 43)).cell? ⟨w.heap.size, 1, none⟩ = some (.int .i64 R.rb) := hR 1 _ rfl
 have c0 := keep B0 hc
 have kA := keep B0 (hbo R.ra.toNat (by omega))
 have kB := keep B0 (hbo R.rb.toNat (by omega))
 clear hbo
 cases hfA : f R.ra.toNat
 all_goals
  rw [hfA] at kA
  go_enter Try.func108, Try.ntmps108
  repeat (first | go_values | go_skip | go_guarded | go_step | go_upon | go_back | dsimp only)
  go_ret
  exact ⟨rfl, B0⟩
set_option maxRecDepth 100000 in
set_option maxHeartbeats 4000000 in
theorem idxR_w (rb ro rn rc_ : Nat) (rs : Option Addr) (Q : Nat → RD) (c g sn : Nat) (f : Nat → Bool) (w : World) (hrs : rn = 0 ∨ rs = some ⟨rb, ro, none⟩) (hrc : rn ≤ rc_) (hrm : rc_ ≤ maxLen) (hr : Rws w rb ro rn Q) (or_ : ∀ i, i < rn → rok (Q i)) (hc : w.cell? ⟨c, 0, none⟩ = some (.slice (some ⟨g, 0, none⟩) sn sn)) (hbo : ∀ i, i < sn → w.cell? ⟨g, i, none⟩ = some (.bool (f i))) (hm : sn ≤ 1024) (hch : ∀ i, i < rn → chB (Q i) rn sn = true) : Calls Try.prog 142 #[.slice rs rn rc_, .func (.func 108) #[] #[.pointer (some ⟨c, 0, none⟩)]] w fun e w' => ∃ r : Int, decide (0 ≤ r) = anyN (fun i => f (Q i).ra.toNat || f (Q i).rb.toNat) rn ∧ e = .returned (.int .i64 r) ∧ Bel w w' := by
 unfold maxLen at hrm
 go_enter Try.func142, Try.ntmps142
 go_wp2
 go_loopw [8] (fun i wr => ∃ k : Nat, k ≤ rn ∧ i = .int .i64 k ∧ Bel w wr ∧ anyN (fun i => f (Q i).ra.toNat || f (Q i).rb.toNat) k = false) (fun i _ => rn - (intOf i).toNat)
 case atStart => exact ⟨0, by omega, rfl, bl_refl _, rfl⟩
 case round =>
  obtain ⟨k, hk, rfl, hB, hq⟩ := hrel
  by_cases hlt : k < rn
  ·have e9 : rs = some ⟨rb, ro, none⟩ := by rcases hrs with h | h; omega; exact h
   subst e9
   have hc9 := hch k hlt
   unfold chB at hc9
   simp only [Bool.and_eq_true, decide_eq_true_eq] at hc9
   obtain ⟨hmay, hc1, hc2, hc3⟩ := hc9
   have hA0 : 0 ≤ (Q k).ra := by unfold mayB at hmay; simp only [Bool.and_eq_true, decide_eq_true_eq] at hmay; exact hmay.1
   have hB0 : 0 ≤ (Q k).rb := by unfold mayB at hmay; simp only [Bool.and_eq_true, decide_eq_true_eq] at hmay; exact hmay.2.1
   have hld : wr.rangeAt rb (ro + k * 14) [.int .i64 (Q k).ra, .int .i64 (Q k).rb, .float .f64 (Q k).r2, .float .f64 (Q k).r3, .float .f64 (Q k).r4, .float .f64 (Q k).r5, .float .f64 (Q k).r6, .float .f64 (Q k).r7, .float .f64 (Q k).r8, .float .f64 (Q k).r9, .float .f64 (Q k).r10, .float .f64 (Q k).r11, .int .i64 (Q k).ro, .float .f64 (Q k).r13] := (hr.bel hB) k hlt
   have hkI : (k : Int) < (rn : Int) := by omega
   have hcl := clo_w (Q k) c g sn f wr (keep hB hc) (fun i hi => keep hB (hbo i hi)) hm hA0 hc1 hB0 hc2
   repeat (first | ((with_reducible show Oper.wp _ ⟨_, Op.load 43 _, _, _, _, _⟩ _ _ _ _); refine wp_load_mid (P := Try.prog) 43 _ rfl _ _ rfl [.int .i64 (Q k).ra, .int .i64 (Q k).rb, .float .f64 (Q k).r2, .float .f64 (Q k).r3, .float .f64 (Q k).r4, .float .f64 (Q k).r5, .float .f64 (Q k).r6, .float .f64 (Q k).r7, .float .f64 (Q k).r8, .float .f64 (Q k).r9, .float .f64 (Q k).r10, .float .f64 (Q k).r11, .int .i64 (Q k).ro, .float .f64 (Q k).r13] _ hld Try.underlying43 rfl (by kernel_rfl) ?_; simp only [go_sem]) | (go_at_call 108; (with_reducible refine hcl.mono ?_); rintro e w' ⟨rfl, hb⟩; cases h : (f (Q k).ra.toNat || f (Q k).rb.toNat) <;> simp only [Bool.not_true, Bool.not_false]) | go_values | go_skip | go_guarded | go_step | go_upon | go_back | dsimp only)
   ·repeat (first | go_values | go_skip | go_guarded | go_step | go_upon | go_back | dsimp only)
    refine ⟨⟨k + 1, by omega, by go_num, bl_trans hB hb, ?_⟩, by simp [intOf]; omega⟩
    unfold anyN
    rw [hq]
    simp [h]
   ·repeat (first | go_values | go_skip | go_guarded | go_step | go_upon | go_back | dsimp only)
    go_ret
    refine ⟨k, ?_, rfl, bl_trans hB hb⟩
    rw [anyN_at (p := (fun i => f (Q i).ra.toNat || f (Q i).rb.toNat)) h hlt]
    simp
  ·have hkn : k = rn := by omega
   subst hkn
   repeat (first | go_values | go_skip | go_guarded | go_step | go_upon | go_back | dsimp only)
   go_ret
   exact ⟨-1, by rw [hq]; rfl, rfl, hB⟩
set_option maxRecDepth 100000 in
set_option maxHeartbeats 4000000 in
theorem hasR_w (rb ro rn rc_ : Nat) (rs : Option Addr) (Q : Nat → RD) (c g sn : Nat) (f : Nat → Bool) (w : World) (hrs : rn = 0 ∨ rs = some ⟨rb, ro, none⟩) (hrc : rn ≤ rc_) (hrm : rc_ ≤ maxLen) (hr : Rws w rb ro rn Q) (or_ : ∀ i, i < rn → rok (Q i)) (hc : w.cell? ⟨c, 0, none⟩ = some (.slice (some ⟨g, 0, none⟩) sn sn)) (hbo : ∀ i, i < sn → w.cell? ⟨g, i, none⟩ = some (.bool (f i))) (hm : sn ≤ 1024) (hch : ∀ i, i < rn → chB (Q i) rn sn = true) : Calls Try.prog 109 #[.slice rs rn rc_, .func (.func 108) #[] #[.pointer (some ⟨c, 0, none⟩)]] w fun e w' => e = .returned (.bool (anyN (fun i => f (Q i).ra.toNat || f (Q i).rb.toNat) rn)) ∧ Bel w w' := by
 go_enter Try.func109, Try.ntmps109
 go_wp2_with (first | (go_at_call 142; (with_reducible refine (idxR_w rb ro rn rc_ rs Q c g sn f _ hrs hrc hrm hr or_ hc hbo hm hch).mono ?_); rintro e w' ⟨r, hr9, rfl, hb⟩))
 go_ret
 exact ⟨by rw [← hr9]; rfl, hb⟩
/-- are two lists of rows apart -/
def apB (Q : Nat → RD) (rn : Nat) (Q2 : Nat → RD) (qn : Nat) (S : Nat → SD) : Bool := !anyN (fun i => (tchB Q rn (Q2 i).ra.toNat && mvB (S (Q2 i).ra.toNat)) || (tchB Q rn (Q2 i).rb.toNat && mvB (S (Q2 i).rb.toNat))) qn

set_option maxRecDepth 100000 in
set_option maxHeartbeats 4000000 in
theorem apart_ok (rb ro rn rc_ : Nat) (rs : Option Addr) (Q : Nat → RD) (qb qo qn qc_ : Nat) (qs : Option Addr) (Q2 : Nat → RD) (sb so sn sc_ : Nat) (ss : Option Addr) (S : Nat → SD) (w : World) (hrs : rn = 0 ∨ rs = some ⟨rb, ro, none⟩) (hrc : rn ≤ rc_) (hrm : rc_ ≤ maxLen) (hr : Rws w rb ro rn Q) (or_ : ∀ i, i < rn → rok (Q i)) (hqs : qn = 0 ∨ qs = some ⟨qb, qo, none⟩) (hqc : qn ≤ qc_) (hqm : qc_ ≤ maxLen) (hq : Rws w qb qo qn Q2) (oq_ : ∀ i, i < qn → rok (Q2 i)) (hss : sn = 0 ∨ ss = some ⟨sb, so, none⟩) (hsc : sn ≤ sc_) (hsm : sc_ ≤ maxLen) (hs : Sts w sb so sn S) (os : ∀ i, i < sn → sok (S i)) (he : asE Q rn S sn = 0) (he2 : asE Q2 qn S sn = 0) : Calls Try.prog 69 #[.slice rs rn rc_, .slice qs qn qc_, .slice ss sn sc_] w fun e w' => e = .returned (.tuple #[.bool (apB Q rn Q2 qn S), .int .i64 0]) ∧ Bel w w' := by
 obtain ⟨hl1, hl2, hch, hst⟩ := asE_zero he
 obtain ⟨_, _, hch2, _⟩ := asE_zero he2
 have hXA : ((w.alloc (.cells #[.slice none 0 0, .slice none 0 0] 116)).alloc (.cells #[.slice none 0 0, .slice none 0 0] 116)).there (w.heap.size) 0 2 := World.there_alloc (there_new w [.slice none 0 0, .slice none 0 0] 116) _
 have hXB : ((w.alloc (.cells #[.slice none 0 0, .slice none 0 0] 116)).alloc (.cells #[.slice none 0 0, .slice none 0 0] 116)).there (w.heap.size + 1) 0 2 := by have h := there_new (w.alloc (.cells #[.slice none 0 0, .slice none 0 0] 116)) [.slice none 0 0, .slice none 0 0] 116; rwa [World.size_alloc] at h
 have hXC : (((w.alloc (.cells #[.slice none 0 0, .slice none 0 0] 116)).alloc (.cells #[.slice none 0 0, .slice none 0 0] 116)).setCells (w.heap.size) 0 [.slice rs rn rc_, .slice ss sn sc_]).there (w.heap.size + 1) 0 2 := World.there_setCells hXB _ _ _
 have hTC : (((w.alloc (.cells #[.slice none 0 0, .slice none 0 0] 116)).alloc (.cells #[.slice none 0 0, .slice none 0 0] 116)).setCells (w.heap.size) 0 [.slice rs rn rc_, .slice ss sn sc_]).rangeAt (w.heap.size) 0 [.slice rs rn rc_, .slice ss sn sc_] := World.rangeAt_setCells_same _ _ _ _ hXA
 have hTA : ((((w.alloc (.cells #[.slice none 0 0, .slice none 0 0] 116)).alloc (.cells #[.slice none 0 0, .slice none 0 0] 116)).setCells (w.heap.size) 0 [.slice rs rn rc_, .slice ss sn sc_]).setCells (w.heap.size + 1) 0 [.slice qs qn qc_, .slice ss sn sc_]).rangeAt (w.heap.size) 0 [.slice rs rn rc_, .slice ss sn sc_] := World.rangeAt_setCells_apart hTC _ _ _ (.inl (by omega))
 have hTB : ((((w.alloc (.cells #[.slice none 0 0, .slice none 0 0] 116)).alloc (.cells #[.slice none 0 0, .slice none 0 0] 116)).setCells (w.heap.size) 0 [.slice rs rn rc_, .slice ss sn sc_]).setCells (w.heap.size + 1) 0 [.slice qs qn qc_, .slice ss sn sc_]).rangeAt (w.heap.size + 1) 0 [.slice qs qn qc_, .slice ss sn sc_] := World.rangeAt_setCells_same _ _ _ _ hXC
 have B0 : Bel w ((((w.alloc (.cells #[.slice none 0 0, .slice none 0 0] 116)).alloc (.cells #[.slice none 0 0, .slice none 0 0] 116)).setCells (w.heap.size) 0 [.slice rs rn rc_, .slice ss sn sc_]).setCells (w.heap.size + 1) 0 [.slice qs qn qc_, .slice ss sn sc_]) := bel_setsJ _ _ (bel_setsJ _ _ (bl_alloc (bl_alloc (bl_refl _) _ _) _ _) (Nat.le_refl _)) (by omega)
 go_enter Try.func69, Try.ntmps69
 repeat (first | ((with_reducible show Oper.wp _ { dst := some 16, op := Op.build 116 _, type := _, pos := _, after := _, guard := _ } _ _ _ _); refine wp_build 116 _ rfl (.agg #[.slice rs rn rc_, .slice ss sn sc_]) (by kernel_rfl) ?_; simp only [go_sem]) | ((with_reducible show Oper.wp _ { dst := some 19, op := Op.build 116 _, type := _, pos := _, after := _, guard := _ } _ _ _ _); refine wp_build 116 _ rfl (.agg #[.slice qs qn qc_, .slice ss sn sc_]) (by kernel_rfl) ?_; simp only [go_sem]) | ((with_reducible show Oper.wp _ ⟨_, Op.store 116 _ _, _, _, _, _⟩ _ _ _ _); refine wp_store_mid (P := Try.prog) 116 _ _ rfl (w.heap.size) (0) #[.slice rs rn rc_, .slice ss sn sc_] rfl rfl hXA (by kernel_rfl) (by kernel_rfl) ?_; simp only [go_sem]) | ((with_reducible show Oper.wp _ ⟨_, Op.store 116 _ _, _, _, _, _⟩ _ _ _ _); refine wp_store_mid (P := Try.prog) 116 _ _ rfl (w.heap.size + 1) (0) #[.slice qs qn qc_, .slice ss sn sc_] rfl rfl hXC (by kernel_rfl) (by kernel_rfl) ?_; simp only [go_sem]) | (with_reducible show Oper.wp _ _ _ _ _ _; refine wp_load_mid (P := Try.prog) 116 _ rfl (w.heap.size) 0 rfl [.slice rs rn rc_, .slice ss sn sc_] _ (by with_reducible assumption) Try.underlying116 rfl (by kernel_rfl) ?_; simp only [go_sem]) | (with_reducible show Oper.wp _ _ _ _ _ _; refine wp_load_mid (P := Try.prog) 116 _ rfl (w.heap.size + 1) 0 rfl [.slice qs qn qc_, .slice ss sn sc_] _ (by with_reducible assumption) Try.underlying116 rfl (by kernel_rfl) ?_; simp only [go_sem]) | (go_at_call 71; (with_reducible refine (check_t rb ro rn rc_ rs Q sb so sn sc_ ss S _ hrs hrc hrm (hr.bel B0) or_ hss hsc hsm (hs.bel B0) os).mono ?_); rintro e w1 ⟨rfl, hbw1⟩; rw [he]; have B1 := bl_trans B0 hbw1; replace hTB := rng_bel hTB hbw1; replace hTA := rng_bel hTA hbw1) | (go_at_call 71; (with_reducible refine (check_t qb qo qn qc_ qs Q2 sb so sn sc_ ss S _ hqs hqc hqm (hq.bel B1) oq_ hss hsc hsm (hs.bel B1) os).mono ?_); rintro e w2 ⟨rfl, hbw2⟩; rw [he2]; have B2 := bl_trans B1 hbw2; replace hTA := rng_bel hTA hbw2) | (go_at_call 107; (with_reducible refine (moved_w rb ro rn rc_ rs Q sb so sn sc_ ss S _ hrs hrc hrm (hr.bel B2) or_ hss hsc hsm (hs.bel B2) os hl2 hch).mono ?_); rintro e w3 ⟨g, hg, hbo, rfl, hb3⟩; have B3 := bl_trans B2 hb3; have B4 : Bel w (w3.alloc (.cells #[.slice (some ⟨g, 0, none⟩) sn sn] 142)) := bl_alloc B3 _ _; (have hc5 : (w3.alloc (.cells #[.slice (some ⟨g, 0, none⟩) sn sn] 142)).cell? ⟨w3.heap.size, 0, none⟩ = some (.slice (some ⟨g, 0, none⟩) sn sn) := (rng_new w3 [.slice (some ⟨g, 0, none⟩) sn sn] 142) 0 _ rfl); (have hbo5 : ∀ i, i < sn → (w3.alloc (.cells #[.slice (some ⟨g, 0, none⟩) sn sn] 142)).cell? ⟨g, i, none⟩ = some (.bool (tchB Q rn i && mvB (S i))) := fun i hi => keep (bl_alloc (bl_refl w3) _ _) (hbo i hi)); clear hbo) | (go_at_call 109; (with_reducible refine (hasR_w qb qo qn qc_ qs Q2 w3.heap.size g sn (fun i => tchB Q rn i && mvB (S i)) _ hqs hqc hqm (hq.bel B4) oq_ hc5 hbo5 hl2 hch2).mono ?_); rintro e w6 ⟨rfl, hb6⟩) | go_values | go_skip | go_guarded | go_step | go_upon | go_back | dsimp only)
 refine bodyPost_ret (v := .tuple #[.bool (apB Q rn Q2 qn S), .int .i64 0]) (by kernel_rfl) rfl ?_
 exact ⟨rfl, bl_trans B4 hb6⟩

end Go.Proofs.Ytfohggiehbplkaa
