/-
  What each function of package poly answers, and what the reference of its chapter answers: one contract a function, for every float: the answer stands in the relation of its formula to what was given; of the memory that was there nothing has turned.
-/
import Derived.Test.YtfohggiehbplkaaVec
import Derived.Test.YtfohggiehbplkaaXj
import Derived.Below
import Derived.OwnWalk
import Derived.Laws.AppendOwn
import Derived.Lib.SliceRun
import Derived.Laws.MakeOwn
import Derived.WalkKit
import Derived.WalkLawsBesides
import Derived.WalkSpells
import Derived.ProofKit
import Derived.OpenShut
import Derived.Deep.RegionHeld3
namespace Go.Proofs.Ytfohggiehbplkaa
open Go.ChangeShapes Go.WideShapes Go.ChangeAt Go.RowKit
set_option linter.unusedVariables false
set_option linter.unusedSimpArgs false


/-- has one of the first k rows a body -/
def tchB (Q : Nat → RD) (k i : Nat) : Bool := anyN (fun q => decide ((Q q).ra.toNat = i) || decide ((Q q).rb.toNat = i)) k
structure BoM (w : World) (g n : Nat) (f : Nat → Bool) : Prop where
 at_ : ∀ i, i < n → w.cell? ⟨g, i, none⟩ = some (.bool (f i))
 fr : ∀ i, i < n → w.frozen? ⟨g, i, none⟩ = false
theorem make_bool (n : Nat) (hn : n ≤ 1024) (W : World) : (Instr.makeSlice 142 (.int .i64 n) (.int .i64 n)).run Try.prog W = .ok (.slice (some ⟨W.heap.size, 0, none⟩) n n) (W.alloc (.cells (Array.replicate n (.bool false)) 4)) := by
 have h := run_make (P := Try.prog) W 142 4 Try.t4 (.bool false) Try.underlying142 (by kernel_rfl) (by kernel_rfl) .i64 .i64 n n (by omega) (by omega) (by show ((1 : Nat) : Int) * n ≤ _; omega) (by omega)
 have e : madeCells (Value.bool false).cells (n * 1) = Array.replicate n (.bool false) := by
  apply Array.ext
  ·simp [madeCells]
  ·intro i h1 h2
   simp [madeCells, Value.cells, Nat.mod_one]
 rw [← e]
 exact h
theorem Bel.cellk {W w' : World} {b o : Nat} {v : Value} (g : Bel W w') (h : W.cell? ⟨b, o, none⟩ = some v) : w'.cell? ⟨b, o, none⟩ = some v := keep g h
theorem Bel.frozk {W w' : World} {a : Addr} {v : Bool} (g : Bel W w') (h : W.frozen? a = v) : w'.frozen? a = v := (g.2 a).trans h
theorem set_far9 {W : World} {b o o' : Nat} {v u : Value} (h : W.cell? ⟨b, o, none⟩ = some v) (n : o' ≠ o) : (W.setCell ⟨b, o', none⟩ u).cell? ⟨b, o, none⟩ = some v := by
 rw [World.cell?_setCell_other _ _ _ _ (by intro e; injection e with _ e2; exact n e2)]; exact h
set_option maxRecDepth 100000 in
set_option maxHeartbeats 4000000 in
theorem moved_w (rb ro rn rc_ : Nat) (rs : Option Addr) (Q : Nat → RD) (sb so sn sc_ : Nat) (ss : Option Addr) (S : Nat → SD) (w : World) (hrs : rn = 0 ∨ rs = some ⟨rb, ro, none⟩) (hrc : rn ≤ rc_) (hrm : rc_ ≤ maxLen) (hr : Rws w rb ro rn Q) (or_ : ∀ i, i < rn → rok (Q i)) (hss : sn = 0 ∨ ss = some ⟨sb, so, none⟩) (hsc : sn ≤ sc_) (hsm : sc_ ≤ maxLen) (hs : Sts w sb so sn S) (os : ∀ i, i < sn → sok (S i)) (hl2 : sn ≤ 1024) (hch : ∀ i, i < rn → chB (Q i) rn sn = true) : Calls Try.prog 107 #[.agg #[.slice rs rn rc_, .slice ss sn sc_]] w fun e w' => ∃ g, w.heap.size ≤ g ∧ (∀ i, i < sn → w'.cell? ⟨g, i, none⟩ = some (.bool (tchB Q rn i && mvB (S i)))) ∧ e = .returned (.slice (some ⟨g, 0, none⟩) sn sn) ∧ Bel w w' := by
 unfold maxLen at hrm hsm
 have B0 : Bel w (w.alloc (.cells #[.slice rs rn rc_, .slice ss sn sc_] 116)) := bl_alloc (bl_refl w) _ _
 have hT : (w.alloc (.cells #[.slice rs rn rc_, .slice ss sn sc_] 116)).rangeAt w.heap.size 0 [.slice rs rn rc_, .slice ss sn sc_] := rng_new w [.slice rs rn rc_, .slice ss sn sc_] 116
 have hm := make_bool sn hl2 (w.alloc (.cells #[.slice rs rn rc_, .slice ss sn sc_] 116))
 have hzT : (w.alloc (.cells #[.slice rs rn rc_, .slice ss sn sc_] 116)).heap.size = w.heap.size + 1 := by simp only [World.size_alloc]
 rw [hzT] at hm
 have hTB : ((w.alloc (.cells #[.slice rs rn rc_, .slice ss sn sc_] 116)).alloc (.cells (Array.replicate sn (.bool false)) 4)).rangeAt w.heap.size 0 [.slice rs rn rc_, .slice ss sn sc_] := World.rangeAt_alloc hT _
 have k0 : (w.alloc (.cells #[.slice rs rn rc_, .slice ss sn sc_] 116)).cell? ⟨w.heap.size, 0, none⟩ = some (.slice rs rn rc_) := hT 0 _ rfl
 have k1 : (w.alloc (.cells #[.slice rs rn rc_, .slice ss sn sc_] 116)).cell? ⟨w.heap.size, 1, none⟩ = some (.slice ss sn sc_) := hT 1 _ rfl
 have j0 : ((w.alloc (.cells #[.slice rs rn rc_, .slice ss sn sc_] 116)).alloc (.cells (Array.replicate sn (.bool false)) 4)).cell? ⟨w.heap.size, 0, none⟩ = some (.slice rs rn rc_) := hTB 0 _ rfl
 have B1 : Bel w ((w.alloc (.cells #[.slice rs rn rc_, .slice ss sn sc_] 116)).alloc (.cells (Array.replicate sn (.bool false)) 4)) := bl_alloc B0 _ _
 have hz1 : w.heap.size + 1 < ((w.alloc (.cells #[.slice rs rn rc_, .slice ss sn sc_] 116)).alloc (.cells (Array.replicate sn (.bool false)) 4)).heap.size := by simp only [World.size_alloc]; omega
 have hbo : ∀ i, i < sn → ((w.alloc (.cells #[.slice rs rn rc_, .slice ss sn sc_] 116)).alloc (.cells (Array.replicate sn (.bool false)) 4)).cell? ⟨w.heap.size + 1, i, none⟩ = some (.bool false) := fun i hi => by
  rw [← hzT, World.cell?_alloc_new]; simp [hi]
 have hfr : ∀ i, i < sn → ((w.alloc (.cells #[.slice rs rn rc_, .slice ss sn sc_] 116)).alloc (.cells (Array.replicate sn (.bool false)) 4)).frozen? ⟨w.heap.size + 1, i, none⟩ = false := fun i hi => by rw [← hzT]; exact fz_new i
 go_enter Try.func107, Try.ntmps107
 repeat (first | go_values | go_skip | go_guarded | go_step | go_upon | go_back | dsimp only)
 go_loopw [15] (fun i wr => ∃ k : Nat, k ≤ rn ∧ i = .int .i64 k ∧ Bel w wr ∧ wr.rangeAt w.heap.size 0 [.slice rs rn rc_, .slice ss sn sc_] ∧ w.heap.size + 1 < wr.heap.size ∧ BoM wr (w.heap.size + 1) sn (fun i => tchB Q k i && mvB (S i))) (fun i _ => rn - (intOf i).toNat)
 case atStart => exact ⟨0, by omega, rfl, B1, hTB, hz1, ⟨fun i hi => by rw [hbo i hi]; rfl, hfr⟩⟩
 case round =>
  obtain ⟨k, hk, rfl, hB, hTw, hzg, hBo⟩ := hrel
  clear hm hbo hfr j0 k0 k1 hTB hz1 B1
  by_cases hlt : k < rn
  ·have e9 : rs = some ⟨rb, ro, none⟩ := by rcases hrs with h | h; omega; exact h
   subst e9
   have hc := hch k hlt
   unfold chB at hc
   simp only [Bool.and_eq_true, decide_eq_true_eq] at hc
   obtain ⟨hmay, hc1, hc2, hc3⟩ := hc
   have hA0 : 0 ≤ (Q k).ra := by unfold mayB at hmay; simp only [Bool.and_eq_true, decide_eq_true_eq] at hmay; exact hmay.1
   have hB0 : 0 ≤ (Q k).rb := by unfold mayB at hmay; simp only [Bool.and_eq_true, decide_eq_true_eq] at hmay; exact hmay.2.1
   have hAB : (Q k).ra ≠ (Q k).rb := by unfold mayB at hmay; simp only [Bool.and_eq_true, decide_eq_true_eq] at hmay; exact hmay.2.2.1
   have hAn : (Q k).ra.toNat < sn := by omega
   have hBn : (Q k).rb.toNat < sn := by omega
   have nAB : (Q k).ra.toNat ≠ (Q k).rb.toNat := by omega
   have e10 : ss = some ⟨sb, so, none⟩ := by rcases hss with h | h; omega; exact h
   subst e10
   have hsl : sb < w.heap.size := World.block_lt_of_cell? w _ (hs _ hAn 0 _ rfl)
   have nT : (⟨w.heap.size + 1, (Q k).ra.toNat, none⟩ : Addr).block ≠ w.heap.size := by show w.heap.size + 1 ≠ w.heap.size; omega
   have nS : (⟨w.heap.size + 1, (Q k).ra.toNat, none⟩ : Addr).block ≠ sb := by show w.heap.size + 1 ≠ sb; omega
   have hld : wr.rangeAt rb (ro + k * 14) [.int .i64 (Q k).ra, .int .i64 (Q k).rb, .float .f64 (Q k).r2, .float .f64 (Q k).r3, .float .f64 (Q k).r4, .float .f64 (Q k).r5, .float .f64 (Q k).r6, .float .f64 (Q k).r7, .float .f64 (Q k).r8, .float .f64 (Q k).r9, .float .f64 (Q k).r10, .float .f64 (Q k).r11, .int .i64 (Q k).ro, .float .f64 (Q k).r13] := (hr.bel hB) k hlt
   have hkI : (k : Int) < (rn : Int) := by omega
   have hX9 : (wr.alloc (.cells #[.int .i64 0, .int .i64 0, .float .f64 0, .float .f64 0, .float .f64 0, .float .f64 0, .float .f64 0, .float .f64 0, .float .f64 0, .float .f64 0, .float .f64 0, .float .f64 0, .int .i64 0, .float .f64 0] 43)).there wr.heap.size 0 14 := there_new wr [.int .i64 0, .int .i64 0, .float .f64 0, .float .f64 0, .float .f64 0, .float .f64 0, .float .f64 0, .float .f64 0, .float .f64 0, .float .f64 0, .float .f64 0, .float .f64 0, .int .i64 0, .float .f64 0] 43
   have hY : ((wr.alloc (.cells #[.int .i64 0, .int .i64 0, .float .f64 0, .float .f64 0, .float .f64 0, .float .f64 0, .float .f64 0, .float .f64 0, .float .f64 0, .float .f64 0, .float .f64 0, .float .f64 0, .int .i64 0, .float .f64 0] 43)).setCells wr.heap.size 0 [.int .i64 (Q k).ra, .int .i64 (Q k).rb, .float .f64 (Q k).r2, .float .f64 (Q k).r3, .float .f64 (Q k).r4, .float .f64 (Q k).r5, .float .f64 (Q k).r6, .float .f64 (Q k).r7, .float .f64 (Q k).r8, .float .f64 (Q k).r9, .float .f64 (Q k).r10, .float .f64 (Q k).r11, .int .i64 (Q k).ro, .float .f64 (Q k).r13]).rangeAt wr.heap.size 0 [.int .i64 (Q k).ra, .int .i64 (Q k).rb, .float .f64 (Q k).r2, .float .f64 (Q k).r3, .float .f64 (Q k).r4, .float .f64 (Q k).r5, .float .f64 (Q k).r6, .float .f64 (Q k).r7, .float .f64 (Q k).r8, .float .f64 (Q k).r9, .float .f64 (Q k).r10, .float .f64 (Q k).r11, .int .i64 (Q k).ro, .float .f64 (Q k).r13] := World.rangeAt_setCells_same _ _ _ _ hX9
   have hB2 : Bel wr ((wr.alloc (.cells #[.int .i64 0, .int .i64 0, .float .f64 0, .float .f64 0, .float .f64 0, .float .f64 0, .float .f64 0, .float .f64 0, .float .f64 0, .float .f64 0, .float .f64 0, .float .f64 0, .int .i64 0, .float .f64 0] 43)).setCells wr.heap.size 0 [.int .i64 (Q k).ra, .int .i64 (Q k).rb, .float .f64 (Q k).r2, .float .f64 (Q k).r3, .float .f64 (Q k).r4, .float .f64 (Q k).r5, .float .f64 (Q k).r6, .float .f64 (Q k).r7, .float .f64 (Q k).r8, .float .f64 (Q k).r9, .float .f64 (Q k).r10, .float .f64 (Q k).r11, .int .i64 (Q k).ro, .float .f64 (Q k).r13]) := bel_setsJ _ _ (bl_alloc (bl_refl _) _ _) (Nat.le_refl _)
   have y0 : ((wr.alloc (.cells #[.int .i64 0, .int .i64 0, .float .f64 0, .float .f64 0, .float .f64 0, .float .f64 0, .float .f64 0, .float .f64 0, .float .f64 0, .float .f64 0, .float .f64 0, .float .f64 0, .int .i64 0, .float .f64 0] 43)).setCells wr.heap.size 0 [.int .i64 (Q k).ra, .int .i64 (Q k).rb, .float .f64 (Q k).r2, .float .f64 (Q k).r3, .float .f64 (Q k).r4, .float .f64 (Q k).r5, .float .f64 (Q k).r6, .float .f64 (Q k).r7, .float .f64 (Q k).r8, .float .f64 (Q k).r9, .float .f64 (Q k).r10, .float .f64 (Q k).r11, .int .i64 (Q k).ro, .float .f64 (Q k).r13]).cell? ⟨wr.heap.size, 0, none⟩ = some (.int .i64 (Q k).ra) := hY 0 _ rfl
   have y1 : ((wr.alloc (.cells #[.int .i64 0, .int .i64 0, .float .f64 0, .float .f64 0, .float .f64 0, .float .f64 0, .float .f64 0, .float .f64 0, .float .f64 0, .float .f64 0, .float .f64 0, .float .f64 0, .int .i64 0, .float .f64 0] 43)).setCells wr.heap.size 0 [.int .i64 (Q k).ra, .int .i64 (Q k).rb, .float .f64 (Q k).r2, .float .f64 (Q k).r3, .float .f64 (Q k).r4, .float .f64 (Q k).r5, .float .f64 (Q k).r6, .float .f64 (Q k).r7, .float .f64 (Q k).r8, .float .f64 (Q k).r9, .float .f64 (Q k).r10, .float .f64 (Q k).r11, .int .i64 (Q k).ro, .float .f64 (Q k).r13]).cell? ⟨wr.heap.size, 1, none⟩ = some (.int .i64 (Q k).rb) := hY 1 _ rfl
   have hT9 := rng_bel hTw hB2
   have t1 : ((wr.alloc (.cells #[.int .i64 0, .int .i64 0, .float .f64 0, .float .f64 0, .float .f64 0, .float .f64 0, .float .f64 0, .float .f64 0, .float .f64 0, .float .f64 0, .float .f64 0, .float .f64 0, .int .i64 0, .float .f64 0] 43)).setCells wr.heap.size 0 [.int .i64 (Q k).ra, .int .i64 (Q k).rb, .float .f64 (Q k).r2, .float .f64 (Q k).r3, .float .f64 (Q k).r4, .float .f64 (Q k).r5, .float .f64 (Q k).r6, .float .f64 (Q k).r7, .float .f64 (Q k).r8, .float .f64 (Q k).r9, .float .f64 (Q k).r10, .float .f64 (Q k).r11, .int .i64 (Q k).ro, .float .f64 (Q k).r13]).cell? ⟨w.heap.size, 1, none⟩ = some (.slice (some ⟨sb, so, none⟩) sn sc_) := hT9 1 _ rfl
   have hA9 : ((wr.alloc (.cells #[.int .i64 0, .int .i64 0, .float .f64 0, .float .f64 0, .float .f64 0, .float .f64 0, .float .f64 0, .float .f64 0, .float .f64 0, .float .f64 0, .float .f64 0, .float .f64 0, .int .i64 0, .float .f64 0] 43)).setCells wr.heap.size 0 [.int .i64 (Q k).ra, .int .i64 (Q k).rb, .float .f64 (Q k).r2, .float .f64 (Q k).r3, .float .f64 (Q k).r4, .float .f64 (Q k).r5, .float .f64 (Q k).r6, .float .f64 (Q k).r7, .float .f64 (Q k).r8, .float .f64 (Q k).r9, .float .f64 (Q k).r10, .float .f64 (Q k).r11, .int .i64 (Q k).ro, .float .f64 (Q k).r13]).rangeAt sb (so + (Q k).ra.toNat * 5) [.float .f64 (S (Q k).ra.toNat).sm, .float .f64 (S (Q k).ra.toNat).si, .float .f64 (S (Q k).ra.toNat).sx, .float .f64 (S (Q k).ra.toNat).sy, .float .f64 (S (Q k).ra.toNat).ss] := rng_bel ((hs.bel hB) _ hAn) hB2
   have hB9 : ((wr.alloc (.cells #[.int .i64 0, .int .i64 0, .float .f64 0, .float .f64 0, .float .f64 0, .float .f64 0, .float .f64 0, .float .f64 0, .float .f64 0, .float .f64 0, .float .f64 0, .float .f64 0, .int .i64 0, .float .f64 0] 43)).setCells wr.heap.size 0 [.int .i64 (Q k).ra, .int .i64 (Q k).rb, .float .f64 (Q k).r2, .float .f64 (Q k).r3, .float .f64 (Q k).r4, .float .f64 (Q k).r5, .float .f64 (Q k).r6, .float .f64 (Q k).r7, .float .f64 (Q k).r8, .float .f64 (Q k).r9, .float .f64 (Q k).r10, .float .f64 (Q k).r11, .int .i64 (Q k).ro, .float .f64 (Q k).r13]).rangeAt sb (so + (Q k).rb.toNat * 5) [.float .f64 (S (Q k).rb.toNat).sm, .float .f64 (S (Q k).rb.toNat).si, .float .f64 (S (Q k).rb.toNat).sx, .float .f64 (S (Q k).rb.toNat).sy, .float .f64 (S (Q k).rb.toNat).ss] := rng_bel ((hs.bel hB) _ hBn) hB2
   have qi0 : ∀ X : World, (Instr.index 157 (.agg #[.int .i64 (Q k).ra, .int .i64 (Q k).rb]) (.int .i64 0)).run Try.prog X = .ok (.int .i64 (Q k).ra) X := fun X => by kernel_rfl
   have qi1 : ∀ X : World, (Instr.index 157 (.agg #[.int .i64 (Q k).ra, .int .i64 (Q k).rb]) (.int .i64 1)).run Try.prog X = .ok (.int .i64 (Q k).rb) X := fun X => by kernel_rfl
   repeat (first | (with_reducible show Oper.wp _ _ _ _ _ _; refine wp_load_mid (P := Try.prog) 43 _ rfl (wr.heap.size) 0 rfl [.int .i64 (Q k).ra, .int .i64 (Q k).rb, .float .f64 (Q k).r2, .float .f64 (Q k).r3, .float .f64 (Q k).r4, .float .f64 (Q k).r5, .float .f64 (Q k).r6, .float .f64 (Q k).r7, .float .f64 (Q k).r8, .float .f64 (Q k).r9, .float .f64 (Q k).r10, .float .f64 (Q k).r11, .int .i64 (Q k).ro, .float .f64 (Q k).r13] _ (by with_reducible assumption) Try.underlying43 rfl (by kernel_rfl) ?_; simp only [go_sem]) | ((with_reducible show Oper.wp _ ⟨_, Op.load 43 _, _, _, _, _⟩ _ _ _ _); refine wp_load_mid (P := Try.prog) 43 _ rfl _ _ rfl [.int .i64 (Q k).ra, .int .i64 (Q k).rb, .float .f64 (Q k).r2, .float .f64 (Q k).r3, .float .f64 (Q k).r4, .float .f64 (Q k).r5, .float .f64 (Q k).r6, .float .f64 (Q k).r7, .float .f64 (Q k).r8, .float .f64 (Q k).r9, .float .f64 (Q k).r10, .float .f64 (Q k).r11, .int .i64 (Q k).ro, .float .f64 (Q k).r13] _ hld Try.underlying43 rfl (by kernel_rfl) ?_; simp only [go_sem]) | ((with_reducible show Oper.wp _ ⟨_, Op.store 43 _ _, _, _, _, _⟩ _ _ _ _); refine wp_store_mid (P := Try.prog) 43 _ _ rfl (wr.heap.size) (0) #[.int .i64 (Q k).ra, .int .i64 (Q k).rb, .float .f64 (Q k).r2, .float .f64 (Q k).r3, .float .f64 (Q k).r4, .float .f64 (Q k).r5, .float .f64 (Q k).r6, .float .f64 (Q k).r7, .float .f64 (Q k).r8, .float .f64 (Q k).r9, .float .f64 (Q k).r10, .float .f64 (Q k).r11, .int .i64 (Q k).ro, .float .f64 (Q k).r13] rfl rfl hX9 (by kernel_rfl) (by kernel_rfl) ?_; simp only [go_sem]) | ((with_reducible show Oper.wp _ ⟨_, Op.load 45 _, _, _, _, _⟩ _ _ _ _); refine wp_load_mid (P := Try.prog) 45 _ rfl _ _ rfl [.float .f64 (S (Q k).ra.toNat).sm, .float .f64 (S (Q k).ra.toNat).si, .float .f64 (S (Q k).ra.toNat).sx, .float .f64 (S (Q k).ra.toNat).sy, .float .f64 (S (Q k).ra.toNat).ss] _ hA9 Try.underlying45 rfl (by kernel_rfl) ?_; simp only [go_sem]) | ((with_reducible show Oper.wp _ ⟨_, Op.load 45 _, _, _, _, _⟩ _ _ _ _); refine wp_load_mid (P := Try.prog) 45 _ rfl _ _ rfl [.float .f64 (S (Q k).rb.toNat).sm, .float .f64 (S (Q k).rb.toNat).si, .float .f64 (S (Q k).rb.toNat).sx, .float .f64 (S (Q k).rb.toNat).sy, .float .f64 (S (Q k).rb.toNat).ss] _ sb9 Try.underlying45 rfl (by kernel_rfl) ?_; simp only [go_sem]) | (go_at_call 119; (with_reducible refine (canMove_w (S (Q k).ra.toNat) _).mono ?_); rintro e wa ⟨rfl, hba⟩; have ka := hba.cellk (keep hB2 (hBo.at_ _ hAn)); have fa := hba.frozk ((hB2.2 _).trans (hBo.fr _ hAn)); have tb := rng_set_far (a := ⟨w.heap.size + 1, (Q k).ra.toNat, none⟩) (v := .bool (mvB (S (Q k).ra.toNat))) (rng_bel hT9 hba) nT; have sb9 := rng_set_far (a := ⟨w.heap.size + 1, (Q k).ra.toNat, none⟩) (v := .bool (mvB (S (Q k).ra.toNat))) (rng_bel hB9 hba) nS; (have tb1 : (wa.setCell ⟨w.heap.size + 1, (Q k).ra.toNat, none⟩ (.bool (mvB (S (Q k).ra.toNat)))).cell? ⟨w.heap.size, 1, none⟩ = some (.slice (some ⟨sb, so, none⟩) sn sc_) := tb 1 _ rfl)) | (go_at_call 119; (with_reducible refine (canMove_w (S (Q k).rb.toNat) _).mono ?_); rintro e wb ⟨rfl, hbb⟩; (have kb : wb.cell? ⟨w.heap.size + 1, (Q k).rb.toNat, none⟩ = some (.bool (tchB Q k (Q k).rb.toNat && mvB (S (Q k).rb.toNat))) := keep hbb (set_far9 (hba.cellk (keep hB2 (hBo.at_ _ hBn))) nAB)); (have fb : wb.frozen? ⟨w.heap.size + 1, (Q k).rb.toNat, none⟩ = false := by rw [hbb.2, World.frozen?_setCell]; exact hba.frozk ((hB2.2 _).trans (hBo.fr _ hBn)))) | go_values | go_skip | go_guarded | go_step | go_upon | go_back | dsimp only)
   go_loopw [24] (fun i' wi => ∃ j : Nat, j ≤ 2 ∧ i' = .int .i64 j ∧ Bel w wi ∧ wi.rangeAt w.heap.size 0 [.slice (some ⟨rb, ro, none⟩) rn rc_, .slice (some ⟨sb, so, none⟩) sn sc_] ∧ w.heap.size + 1 < wi.heap.size ∧ BoM wi (w.heap.size + 1) sn (fun i => (tchB Q k i || ((decide (1 ≤ j) && decide ((Q k).ra.toNat = i)) || (decide (2 ≤ j) && decide ((Q k).rb.toNat = i)))) && mvB (S i))) (fun i' _ => 2 - (intOf i').toNat)
   case atStart => exact ⟨0, by omega, rfl, bl_trans hB hB2, hT9, Nat.lt_of_lt_of_le hzg hB2.size, ⟨fun i hi => by have h := keep hB2 (hBo.at_ i hi); simpa using h, fun i hi => (hB2.2 _).trans (hBo.fr i hi)⟩⟩
   case round =>
    obtain ⟨j, hj, rfl, hBi, hTi, hzi, hBm⟩ := hrel
    clear hB2 hT9 t1 hA9 hB9 hY y0 y1 hX9 hBo hTw hzg hld
    have t1 : wr.cell? ⟨w.heap.size, 1, none⟩ = some (.slice (some ⟨sb, so, none⟩) sn sc_) := hTi 1 _ rfl
    have hA9 : wr.rangeAt sb (so + (Q k).ra.toNat * 5) [.float .f64 (S (Q k).ra.toNat).sm, .float .f64 (S (Q k).ra.toNat).si, .float .f64 (S (Q k).ra.toNat).sx, .float .f64 (S (Q k).ra.toNat).sy, .float .f64 (S (Q k).ra.toNat).ss] := (hs.bel hBi) _ hAn
    have hB9 : wr.rangeAt sb (so + (Q k).rb.toNat * 5) [.float .f64 (S (Q k).rb.toNat).sm, .float .f64 (S (Q k).rb.toNat).si, .float .f64 (S (Q k).rb.toNat).sx, .float .f64 (S (Q k).rb.toNat).sy, .float .f64 (S (Q k).rb.toNat).ss] := (hs.bel hBi) _ hBn
    rcases (show j = 0 ∨ j = 1 ∨ j = 2 by omega) with rfl | rfl | rfl
    ·repeat (first | ((with_reducible show Oper.wp _ ⟨_, Op.load 45 _, _, _, _, _⟩ _ _ _ _); refine wp_load_mid (P := Try.prog) 45 _ rfl _ _ rfl [.float .f64 (S (Q k).ra.toNat).sm, .float .f64 (S (Q k).ra.toNat).si, .float .f64 (S (Q k).ra.toNat).sx, .float .f64 (S (Q k).ra.toNat).sy, .float .f64 (S (Q k).ra.toNat).ss] _ hA9 Try.underlying45 rfl (by kernel_rfl) ?_; simp only [go_sem]) | (go_at_call 119; (with_reducible refine (canMove_w (S (Q k).ra.toNat) _).mono ?_); rintro e wa ⟨rfl, hba⟩; have ka := hba.cellk (hBm.at_ _ hAn); have fa := hba.frozk (hBm.fr _ hAn)) | go_values | go_skip | go_guarded | go_step | go_upon | go_back | dsimp only)
     refine ⟨⟨1, by omega, by go_num, bel_set1 (bl_trans hBi hba) (by omega), rng_set_far (rng_bel hTi hba) (by show w.heap.size + 1 ≠ w.heap.size; omega), by rw [size_set]; have := hba.size; omega, ⟨fun i hi => ?_, fun i hi => by rw [World.frozen?_setCell, hba.2]; exact hBm.fr i hi⟩⟩, by simp [intOf]⟩
     have h9 := keep hba (hBm.at_ i hi)
     by_cases eA : i = (Q k).ra.toNat
     ·subst eA
      rw [World.cell?_setCell_same _ _ _ ka]
      simp
     ·have e7 : decide ((Q k).ra.toNat = i) = false := decide_eq_false (fun e => eA e.symm)
      rw [set_far9 h9 (fun e => eA e.symm), e7]
      simp
    ·repeat (first | ((with_reducible show Oper.wp _ ⟨_, Op.load 45 _, _, _, _, _⟩ _ _ _ _); refine wp_load_mid (P := Try.prog) 45 _ rfl _ _ rfl [.float .f64 (S (Q k).rb.toNat).sm, .float .f64 (S (Q k).rb.toNat).si, .float .f64 (S (Q k).rb.toNat).sx, .float .f64 (S (Q k).rb.toNat).sy, .float .f64 (S (Q k).rb.toNat).ss] _ hB9 Try.underlying45 rfl (by kernel_rfl) ?_; simp only [go_sem]) | (go_at_call 119; (with_reducible refine (canMove_w (S (Q k).rb.toNat) _).mono ?_); rintro e wa ⟨rfl, hba⟩; have ka := hba.cellk (hBm.at_ _ hBn); have fa := hba.frozk (hBm.fr _ hBn)) | go_values | go_skip | go_guarded | go_step | go_upon | go_back | dsimp only)
     refine ⟨⟨2, by omega, by go_num, bel_set1 (bl_trans hBi hba) (by omega), rng_set_far (rng_bel hTi hba) (by show w.heap.size + 1 ≠ w.heap.size; omega), by rw [size_set]; have := hba.size; omega, ⟨fun i hi => ?_, fun i hi => by rw [World.frozen?_setCell, hba.2]; exact hBm.fr i hi⟩⟩, by simp [intOf]⟩
     have h9 := keep hba (hBm.at_ i hi)
     by_cases eB : i = (Q k).rb.toNat
     ·subst eB
      rw [World.cell?_setCell_same _ _ _ ka]
      simp
     ·have e7 : decide ((Q k).rb.toNat = i) = false := decide_eq_false (fun e => eB e.symm)
      rw [set_far9 h9 (fun e => eB e.symm), e7]
      simp
    ·repeat (first | go_values | go_skip | go_guarded | go_step | go_upon | go_back | dsimp only)
     refine ⟨⟨k + 1, by omega, by go_num, hBi, hTi, hzi, ⟨fun i hi => ?_, hBm.fr⟩⟩, by simp [intOf]; omega⟩
     have h9 := hBm.at_ i hi
     show _ = some (Value.bool ((tchB Q k i || (decide ((Q k).ra.toNat = i) || decide ((Q k).rb.toNat = i))) && mvB (S i)))
     rw [h9]
     simp
  ·have hkn : k = rn := by omega
   subst hkn
   repeat (first | go_values | go_skip | go_guarded | go_step | go_upon | go_back | dsimp only)
   go_ret
   exact ⟨w.heap.size + 1, by omega, hBo.at_, rfl, hB⟩

end Go.Proofs.Ytfohggiehbplkaa
