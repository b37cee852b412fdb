/-
  What each function of package poly answers, and what the reference of its chapter answers: one contract a function, for every float: the answer stands in the relation of its formula to what was given; of the memory that was there nothing has turned.
-/
import Derived.Test.YtfohggiehbplkaaVec
import Derived.Test.YtfohggiehbplkaaXl
import Derived.Below
import Derived.OwnWalk
import Derived.Laws.AppendOwn
import Derived.Lib.SliceRun
import Derived.Laws.MakeOwn
import Derived.WalkKit
import Derived.WalkLawsBesides
import Derived.WalkSpells
import Derived.ProofKit
import Derived.OpenShut
import Derived.Deep.RegionHeld3
namespace Go.Proofs.Ytfohggiehbplkaa
open Go.ChangeShapes Go.WideShapes Go.ChangeAt Go.RowKit
set_option linter.unusedVariables false
set_option linter.unusedSimpArgs false


def Ints (w : World) (b off n : Nat) (X : Nat → Int) : Prop := ∀ i, i < n → w.cell? ⟨b, off + i, none⟩ = some (.int .i64 (X i))
theorem Ints.bel {w w' : World} {b off n : Nat} {X : Nat → Int} (h : Ints w b off n X) (g : Bel w w') : Ints w' b off n X := fun i hi => keep g (h i hi)
/-- is a number one of the first k -/
def askF (X : Nat → Int) (k i : Nat) : Bool := anyN (fun q => decide (X q = (i : Int))) k
def pickN (p : Nat → Bool) : Nat → List Nat
 | 0 => []
 | k + 1 => bif p k then pickN p k ++ [k] else pickN p k
def intsV (L : List Nat) : List Value := L.map (fun n : Nat => Value.int .i64 (n : Int))
/-- is a row of one of the numbers -/
def ofP (Q : Nat → RD) (X : Nat → Int) (n : Nat) : Nat → Bool := fun i => askF X n (Q i).ra.toNat || askF X n (Q i).rb.toNat
theorem zero_bools : Try.zeroCells159 = Array.replicate 1024 (.bool false) := by kernel_rfl
theorem _root_.Go.Proofs.Ytfohggiehbplkaa.OwnR.base9 {sz b b2 : Nat} {w : World} {v : Value} {n : Nat} {R : List Value} (h : OwnR sz b w v n R) (g : b2 ≤ b) : OwnR sz b2 w v n R := by
 refine ⟨h.1, ?_⟩
 rcases h.2 with h | ⟨k, cap, e, h1, h2⟩
 ·exact .inl h
 ·exact .inr ⟨k, cap, e, Nat.le_trans g h1, h2⟩
theorem info_int : (Try.prog.info? 3).map (fun i => (i.zero, i.size, i.bytes)) = some (some (.int .i64 0), 1, 8) := by kernel_rfl
theorem pick_le (p : Nat → Bool) : ∀ k, (pickN p k).length ≤ k
 | 0 => Nat.le_refl _
 | k + 1 => by
  have h := pick_le p k
  unfold pickN
  cases p k
  ·show (pickN p k).length ≤ _; omega
  ·show (pickN p k ++ [k]).length ≤ _; rw [List.length_append]; show _ + 1 ≤ _; omega
set_option maxRecDepth 100000 in
set_option maxHeartbeats 4000000 in
theorem of_w (rb ro rn rc_ : Nat) (rs : Option Addr) (Q : Nat → RD) (ib io inn ic_ : Nat) (is_ : Option Addr) (X : Nat → Int) (w : World) (hrs : rn = 0 ∨ rs = some ⟨rb, ro, none⟩) (hrc : rn ≤ rc_) (hrm : rc_ ≤ maxLen) (hr : Rws w rb ro rn Q) (or_ : ∀ i, i < rn → rok (Q i)) (his : inn = 0 ∨ is_ = some ⟨ib, io, none⟩) (hic : inn ≤ ic_) (him : ic_ ≤ maxLen) (hi_ : Ints w ib io inn X) (hl1 : rn ≤ 1048576) (hl2 : inn ≤ 1024) (hch : ∀ i, i < rn → chB (Q i) rn 1024 = true) : Calls Try.prog 111 #[.slice rs rn rc_, .slice is_ inn ic_] w fun e w' => ∃ v, OwnR 1 w.heap.size w' v (pickN (ofP Q X inn) rn).length (intsV (pickN (ofP Q X inn) rn)) ∧ e = .returned (v) ∧ Bel w w' := by
 unfold maxLen at hrm him
 have B0 : Bel w (w.alloc (.cells Try.zeroCells159 159)) := bl_alloc (bl_refl w) _ _
 have hb0 : BoM (w.alloc (.cells Try.zeroCells159 159)) (w.heap.size) 1024 (fun _ => false) := ⟨fun i hi => by rw [World.cell?_alloc_new, zero_bools]; simp [hi], fun i hi => fz_new i⟩
 have hz0 : w.heap.size < (w.alloc (.cells Try.zeroCells159 159)).heap.size := by rw [World.size_alloc]; omega
 go_enter Try.func111, Try.ntmps111
 repeat (first | go_values | go_skip | go_guarded | go_step | go_upon | go_back | dsimp only)
 go_loopw [13] (fun i wr => ∃ k : Nat, k ≤ inn ∧ i = .int .i64 k ∧ Bel w wr ∧ w.heap.size < wr.heap.size ∧ BoM wr (w.heap.size) 1024 (askF X k)) (fun i _ => inn - (intOf i).toNat)
 case atStart => exact ⟨0, by omega, rfl, B0, hz0, ⟨fun i hi => hb0.at_ i hi, hb0.fr⟩⟩
 case round =>
  obtain ⟨k, hk, rfl, hB, hz, hBo⟩ := hrel
  clear hb0
  by_cases hlt : k < inn
  ·have e9 : is_ = some ⟨ib, io, none⟩ := by rcases his with h | h; omega; exact h
   subst e9
   have hkI : (k : Int) < (inn : Int) := by omega
   have x0 := (hi_.bel hB) k hlt
   by_cases h1 : 0 ≤ X k
   ·by_cases h2 : X k < 1024
    ·have ka := hBo.at_ (X k).toNat (by omega)
     have fa := hBo.fr (X k).toNat (by omega)
     repeat (first | go_values | go_skip | go_guarded | go_step | go_upon | go_back | dsimp only)
     refine ⟨⟨k + 1, by omega, by go_num, bel_set1 hB (Nat.le_refl _), by rw [size_set]; exact hz, ⟨fun i hi => ?_, fun i hi => by rw [World.frozen?_setCell]; exact hBo.fr i hi⟩⟩, by simp [intOf]; omega⟩
     show _ = some (Value.bool (askF X k i || decide (X k = (i : Int))))
     by_cases eA : (X k).toNat = i
     ·subst eA
      rw [World.cell?_setCell_same _ _ _ ka, decide_eq_true (show X k = ((X k).toNat : Int) by omega)]
      simp
     ·rw [set_far9 (hBo.at_ i hi) eA, decide_eq_false (show ¬ X k = (i : Int) by omega)]
      simp
    ·repeat (first | go_values | go_skip | go_guarded | go_step | go_upon | go_back | dsimp only)
     refine ⟨⟨k + 1, by omega, by go_num, hB, hz, ⟨fun i hi => ?_, hBo.fr⟩⟩, by simp [intOf]; omega⟩
     show _ = some (Value.bool (askF X k i || decide (X k = (i : Int))))
     rw [hBo.at_ i hi, decide_eq_false (show ¬ X k = (i : Int) by omega)]
     simp
   ·repeat (first | go_values | go_skip | go_guarded | go_step | go_upon | go_back | dsimp only)
    refine ⟨⟨k + 1, by omega, by go_num, hB, hz, ⟨fun i hi => ?_, hBo.fr⟩⟩, by simp [intOf]; omega⟩
    show _ = some (Value.bool (askF X k i || decide (X k = (i : Int))))
    rw [hBo.at_ i hi, decide_eq_false (show ¬ X k = (i : Int) by omega)]
    simp
  ·have hkn : k = inn := by omega
   subst hkn
   obtain ⟨w1, hw1⟩ : ∃ w1, w1 = wr := ⟨_, rfl⟩
   repeat (first | go_values | go_skip | go_guarded | go_step | go_upon | go_back | dsimp only)
   rw [← hw1] at hB hz hBo ⊢
   clear hw1
   go_loopw [28, 8] (fun i v wr => ∃ j : Nat, j ≤ rn ∧ i = .int .i64 j ∧ OwnR 1 w1.heap.size wr v (pickN (ofP Q X k) j).length (intsV (pickN (ofP Q X k) j)) ∧ Bel w1 wr) (fun i _ _ => rn - (intOf i).toNat)
   case atStart => exact ⟨0, by omega, rfl, OwnR.nil _ _ _, bl_refl _⟩
   case round =>
    obtain ⟨j, hj, rfl, hO, hB1⟩ := hrel
    by_cases hlt2 : j < rn
    ·have e9 : rs = some ⟨rb, ro, none⟩ := by rcases hrs with h | h; omega; exact h
     subst e9
     have hc9 := hch j hlt2
     unfold chB at hc9
     simp only [Bool.and_eq_true, decide_eq_true_eq] at hc9
     obtain ⟨hmay, hc1, hc2, hc3⟩ := hc9
     have hA0 : 0 ≤ (Q j).ra := by unfold mayB at hmay; simp only [Bool.and_eq_true, decide_eq_true_eq] at hmay; exact hmay.1
     have hB0 : 0 ≤ (Q j).rb := by unfold mayB at hmay; simp only [Bool.and_eq_true, decide_eq_true_eq] at hmay; exact hmay.2.1
     have hkI : (j : Int) < (rn : Int) := by omega
     have hld : wr.rangeAt rb (ro + j * 14) [.int .i64 (Q j).ra, .int .i64 (Q j).rb, .float .f64 (Q j).r2, .float .f64 (Q j).r3, .float .f64 (Q j).r4, .float .f64 (Q j).r5, .float .f64 (Q j).r6, .float .f64 (Q j).r7, .float .f64 (Q j).r8, .float .f64 (Q j).r9, .float .f64 (Q j).r10, .float .f64 (Q j).r11, .int .i64 (Q j).ro, .float .f64 (Q j).r13] := ((hr.bel hB).bel hB1) j hlt2
     have hX9 : (wr.alloc (.cells #[.int .i64 0, .int .i64 0, .float .f64 0, .float .f64 0, .float .f64 0, .float .f64 0, .float .f64 0, .float .f64 0, .float .f64 0, .float .f64 0, .float .f64 0, .float .f64 0, .int .i64 0, .float .f64 0] 43)).there wr.heap.size 0 14 := there_new wr [.int .i64 0, .int .i64 0, .float .f64 0, .float .f64 0, .float .f64 0, .float .f64 0, .float .f64 0, .float .f64 0, .float .f64 0, .float .f64 0, .float .f64 0, .float .f64 0, .int .i64 0, .float .f64 0] 43
     have hY : ((wr.alloc (.cells #[.int .i64 0, .int .i64 0, .float .f64 0, .float .f64 0, .float .f64 0, .float .f64 0, .float .f64 0, .float .f64 0, .float .f64 0, .float .f64 0, .float .f64 0, .float .f64 0, .int .i64 0, .float .f64 0] 43)).setCells wr.heap.size 0 [.int .i64 (Q j).ra, .int .i64 (Q j).rb, .float .f64 (Q j).r2, .float .f64 (Q j).r3, .float .f64 (Q j).r4, .float .f64 (Q j).r5, .float .f64 (Q j).r6, .float .f64 (Q j).r7, .float .f64 (Q j).r8, .float .f64 (Q j).r9, .float .f64 (Q j).r10, .float .f64 (Q j).r11, .int .i64 (Q j).ro, .float .f64 (Q j).r13]).rangeAt wr.heap.size 0 [.int .i64 (Q j).ra, .int .i64 (Q j).rb, .float .f64 (Q j).r2, .float .f64 (Q j).r3, .float .f64 (Q j).r4, .float .f64 (Q j).r5, .float .f64 (Q j).r6, .float .f64 (Q j).r7, .float .f64 (Q j).r8, .float .f64 (Q j).r9, .float .f64 (Q j).r10, .float .f64 (Q j).r11, .int .i64 (Q j).ro, .float .f64 (Q j).r13] := World.rangeAt_setCells_same _ _ _ _ hX9
     have hB2 : Bel wr ((wr.alloc (.cells #[.int .i64 0, .int .i64 0, .float .f64 0, .float .f64 0, .float .f64 0, .float .f64 0, .float .f64 0, .float .f64 0, .float .f64 0, .float .f64 0, .float .f64 0, .float .f64 0, .int .i64 0, .float .f64 0] 43)).setCells wr.heap.size 0 [.int .i64 (Q j).ra, .int .i64 (Q j).rb, .float .f64 (Q j).r2, .float .f64 (Q j).r3, .float .f64 (Q j).r4, .float .f64 (Q j).r5, .float .f64 (Q j).r6, .float .f64 (Q j).r7, .float .f64 (Q j).r8, .float .f64 (Q j).r9, .float .f64 (Q j).r10, .float .f64 (Q j).r11, .int .i64 (Q j).ro, .float .f64 (Q j).r13]) := bel_setsJ _ _ (bl_alloc (bl_refl _) _ _) (Nat.le_refl _)
     have y0 : ((wr.alloc (.cells #[.int .i64 0, .int .i64 0, .float .f64 0, .float .f64 0, .float .f64 0, .float .f64 0, .float .f64 0, .float .f64 0, .float .f64 0, .float .f64 0, .float .f64 0, .float .f64 0, .int .i64 0, .float .f64 0] 43)).setCells wr.heap.size 0 [.int .i64 (Q j).ra, .int .i64 (Q j).rb, .float .f64 (Q j).r2, .float .f64 (Q j).r3, .float .f64 (Q j).r4, .float .f64 (Q j).r5, .float .f64 (Q j).r6, .float .f64 (Q j).r7, .float .f64 (Q j).r8, .float .f64 (Q j).r9, .float .f64 (Q j).r10, .float .f64 (Q j).r11, .int .i64 (Q j).ro, .float .f64 (Q j).r13]).cell? ⟨wr.heap.size, 0, none⟩ = some (.int .i64 (Q j).ra) := hY 0 _ rfl
     have y1 : ((wr.alloc (.cells #[.int .i64 0, .int .i64 0, .float .f64 0, .float .f64 0, .float .f64 0, .float .f64 0, .float .f64 0, .float .f64 0, .float .f64 0, .float .f64 0, .float .f64 0, .float .f64 0, .int .i64 0, .float .f64 0] 43)).setCells wr.heap.size 0 [.int .i64 (Q j).ra, .int .i64 (Q j).rb, .float .f64 (Q j).r2, .float .f64 (Q j).r3, .float .f64 (Q j).r4, .float .f64 (Q j).r5, .float .f64 (Q j).r6, .float .f64 (Q j).r7, .float .f64 (Q j).r8, .float .f64 (Q j).r9, .float .f64 (Q j).r10, .float .f64 (Q j).r11, .int .i64 (Q j).ro, .float .f64 (Q j).r13]).cell? ⟨wr.heap.size, 1, none⟩ = some (.int .i64 (Q j).rb) := hY 1 _ rfl
     have kA := keep hB2 (keep hB1 (hBo.at_ (Q j).ra.toNat (by omega)))
     have kB := keep hB2 (keep hB1 (hBo.at_ (Q j).rb.toNat (by omega)))
     have hz2 : ((wr.alloc (.cells #[.int .i64 0, .int .i64 0, .float .f64 0, .float .f64 0, .float .f64 0, .float .f64 0, .float .f64 0, .float .f64 0, .float .f64 0, .float .f64 0, .float .f64 0, .float .f64 0, .int .i64 0, .float .f64 0] 43)).setCells wr.heap.size 0 [.int .i64 (Q j).ra, .int .i64 (Q j).rb, .float .f64 (Q j).r2, .float .f64 (Q j).r3, .float .f64 (Q j).r4, .float .f64 (Q j).r5, .float .f64 (Q j).r6, .float .f64 (Q j).r7, .float .f64 (Q j).r8, .float .f64 (Q j).r9, .float .f64 (Q j).r10, .float .f64 (Q j).r11, .int .i64 (Q j).ro, .float .f64 (Q j).r13]).heap.size = wr.heap.size + 1 := by rw [size_setsJ, World.size_alloc]
     have hpl := pick_le (ofP Q X k) j
     have hzz := hB1.size
     have B5 : Bel ((wr.alloc (.cells #[.int .i64 0, .int .i64 0, .float .f64 0, .float .f64 0, .float .f64 0, .float .f64 0, .float .f64 0, .float .f64 0, .float .f64 0, .float .f64 0, .float .f64 0, .float .f64 0, .int .i64 0, .float .f64 0] 43)).setCells wr.heap.size 0 [.int .i64 (Q j).ra, .int .i64 (Q j).rb, .float .f64 (Q j).r2, .float .f64 (Q j).r3, .float .f64 (Q j).r4, .float .f64 (Q j).r5, .float .f64 (Q j).r6, .float .f64 (Q j).r7, .float .f64 (Q j).r8, .float .f64 (Q j).r9, .float .f64 (Q j).r10, .float .f64 (Q j).r11, .int .i64 (Q j).ro, .float .f64 (Q j).r13]) (((wr.alloc (.cells #[.int .i64 0, .int .i64 0, .float .f64 0, .float .f64 0, .float .f64 0, .float .f64 0, .float .f64 0, .float .f64 0, .float .f64 0, .float .f64 0, .float .f64 0, .float .f64 0, .int .i64 0, .float .f64 0] 43)).setCells wr.heap.size 0 [.int .i64 (Q j).ra, .int .i64 (Q j).rb, .float .f64 (Q j).r2, .float .f64 (Q j).r3, .float .f64 (Q j).r4, .float .f64 (Q j).r5, .float .f64 (Q j).r6, .float .f64 (Q j).r7, .float .f64 (Q j).r8, .float .f64 (Q j).r9, .float .f64 (Q j).r10, .float .f64 (Q j).r11, .int .i64 (Q j).ro, .float .f64 (Q j).r13]).alloc (.cells #[.int .i64 (j : Int)] 3)) := bl_alloc (bl_refl _) _ _
     have hN : Rw (((wr.alloc (.cells #[.int .i64 0, .int .i64 0, .float .f64 0, .float .f64 0, .float .f64 0, .float .f64 0, .float .f64 0, .float .f64 0, .float .f64 0, .float .f64 0, .float .f64 0, .float .f64 0, .int .i64 0, .float .f64 0] 43)).setCells wr.heap.size 0 [.int .i64 (Q j).ra, .int .i64 (Q j).rb, .float .f64 (Q j).r2, .float .f64 (Q j).r3, .float .f64 (Q j).r4, .float .f64 (Q j).r5, .float .f64 (Q j).r6, .float .f64 (Q j).r7, .float .f64 (Q j).r8, .float .f64 (Q j).r9, .float .f64 (Q j).r10, .float .f64 (Q j).r11, .int .i64 (Q j).ro, .float .f64 (Q j).r13]).alloc (.cells #[.int .i64 (j : Int)] 3)) (wr.heap.size + 1) 0 [.int .i64 (j : Int)] := fun q u hq => by
      have h := rng_new ((wr.alloc (.cells #[.int .i64 0, .int .i64 0, .float .f64 0, .float .f64 0, .float .f64 0, .float .f64 0, .float .f64 0, .float .f64 0, .float .f64 0, .float .f64 0, .float .f64 0, .float .f64 0, .int .i64 0, .float .f64 0] 43)).setCells wr.heap.size 0 [.int .i64 (Q j).ra, .int .i64 (Q j).rb, .float .f64 (Q j).r2, .float .f64 (Q j).r3, .float .f64 (Q j).r4, .float .f64 (Q j).r5, .float .f64 (Q j).r6, .float .f64 (Q j).r7, .float .f64 (Q j).r8, .float .f64 (Q j).r9, .float .f64 (Q j).r10, .float .f64 (Q j).r11, .int .i64 (Q j).ro, .float .f64 (Q j).r13]) [.int .i64 (j : Int)] 3 q u hq
      rw [hz2] at h
      exact h
     obtain ⟨v', w', hr1, hr2, hr3, hr4⟩ := run_appR (P := Try.prog) 112 112 3 Try.underlying112 info_int rfl (wr.heap.size + 1) 0 1 1 (hO.bel (bl_trans hB2 B5)) (N := [.int .i64 (j : Int)]) rfl hN (by intro u hu; simp only [List.mem_singleton] at hu; subst hu; rfl) (by decide) (by have := (bl_trans hB2 B5).size; omega) (by unfold maxLen; omega) (by omega)
     cases hfA : askF X k (Q j).ra.toNat
     ·cases hfB : askF X k (Q j).rb.toNat
      ·rw [hfA] at kA
       rw [hfB] at kB
       repeat (first | (with_reducible show Oper.wp _ _ _ _ _ _; refine wp_load_mid (P := Try.prog) 43 _ rfl (wr.heap.size) 0 rfl [.int .i64 (Q j).ra, .int .i64 (Q j).rb, .float .f64 (Q j).r2, .float .f64 (Q j).r3, .float .f64 (Q j).r4, .float .f64 (Q j).r5, .float .f64 (Q j).r6, .float .f64 (Q j).r7, .float .f64 (Q j).r8, .float .f64 (Q j).r9, .float .f64 (Q j).r10, .float .f64 (Q j).r11, .int .i64 (Q j).ro, .float .f64 (Q j).r13] _ (by with_reducible assumption) Try.underlying43 rfl (by kernel_rfl) ?_; simp only [go_sem]) | ((with_reducible show Oper.wp _ ⟨_, Op.load 43 _, _, _, _, _⟩ _ _ _ _); refine wp_load_mid (P := Try.prog) 43 _ rfl _ _ rfl [.int .i64 (Q j).ra, .int .i64 (Q j).rb, .float .f64 (Q j).r2, .float .f64 (Q j).r3, .float .f64 (Q j).r4, .float .f64 (Q j).r5, .float .f64 (Q j).r6, .float .f64 (Q j).r7, .float .f64 (Q j).r8, .float .f64 (Q j).r9, .float .f64 (Q j).r10, .float .f64 (Q j).r11, .int .i64 (Q j).ro, .float .f64 (Q j).r13] _ hld Try.underlying43 rfl (by kernel_rfl) ?_; simp only [go_sem]) | ((with_reducible show Oper.wp _ ⟨_, Op.store 43 _ _, _, _, _, _⟩ _ _ _ _); refine wp_store_mid (P := Try.prog) 43 _ _ rfl (wr.heap.size) (0) #[.int .i64 (Q j).ra, .int .i64 (Q j).rb, .float .f64 (Q j).r2, .float .f64 (Q j).r3, .float .f64 (Q j).r4, .float .f64 (Q j).r5, .float .f64 (Q j).r6, .float .f64 (Q j).r7, .float .f64 (Q j).r8, .float .f64 (Q j).r9, .float .f64 (Q j).r10, .float .f64 (Q j).r11, .int .i64 (Q j).ro, .float .f64 (Q j).r13] rfl rfl hX9 (by kernel_rfl) (by kernel_rfl) ?_; simp only [go_sem]) | (at_builtin; refine wpList_runX 112 rfl (.tmp 43) (.tmp 45) rfl rfl rfl hr1 ?_) | go_values | go_skip | go_guarded | go_step | go_upon | go_back | dsimp only)
       refine ⟨⟨j + 1, by omega, by go_num, ?_, bl_trans hB1 hB2⟩, by simp [intOf]; omega⟩
       have e1 : pickN (ofP Q X k) (j + 1) = pickN (ofP Q X k) j := by show (bif ofP Q X k j then _ else _) = _; unfold ofP; rw [hfA, hfB]; rfl
       rw [e1]
       exact hO.bel hB2
      ·rw [hfA] at kA
       rw [hfB] at kB
       repeat (first | (with_reducible show Oper.wp _ _ _ _ _ _; refine wp_load_mid (P := Try.prog) 43 _ rfl (wr.heap.size) 0 rfl [.int .i64 (Q j).ra, .int .i64 (Q j).rb, .float .f64 (Q j).r2, .float .f64 (Q j).r3, .float .f64 (Q j).r4, .float .f64 (Q j).r5, .float .f64 (Q j).r6, .float .f64 (Q j).r7, .float .f64 (Q j).r8, .float .f64 (Q j).r9, .float .f64 (Q j).r10, .float .f64 (Q j).r11, .int .i64 (Q j).ro, .float .f64 (Q j).r13] _ (by with_reducible assumption) Try.underlying43 rfl (by kernel_rfl) ?_; simp only [go_sem]) | ((with_reducible show Oper.wp _ ⟨_, Op.load 43 _, _, _, _, _⟩ _ _ _ _); refine wp_load_mid (P := Try.prog) 43 _ rfl _ _ rfl [.int .i64 (Q j).ra, .int .i64 (Q j).rb, .float .f64 (Q j).r2, .float .f64 (Q j).r3, .float .f64 (Q j).r4, .float .f64 (Q j).r5, .float .f64 (Q j).r6, .float .f64 (Q j).r7, .float .f64 (Q j).r8, .float .f64 (Q j).r9, .float .f64 (Q j).r10, .float .f64 (Q j).r11, .int .i64 (Q j).ro, .float .f64 (Q j).r13] _ hld Try.underlying43 rfl (by kernel_rfl) ?_; simp only [go_sem]) | ((with_reducible show Oper.wp _ ⟨_, Op.store 43 _ _, _, _, _, _⟩ _ _ _ _); refine wp_store_mid (P := Try.prog) 43 _ _ rfl (wr.heap.size) (0) #[.int .i64 (Q j).ra, .int .i64 (Q j).rb, .float .f64 (Q j).r2, .float .f64 (Q j).r3, .float .f64 (Q j).r4, .float .f64 (Q j).r5, .float .f64 (Q j).r6, .float .f64 (Q j).r7, .float .f64 (Q j).r8, .float .f64 (Q j).r9, .float .f64 (Q j).r10, .float .f64 (Q j).r11, .int .i64 (Q j).ro, .float .f64 (Q j).r13] rfl rfl hX9 (by kernel_rfl) (by kernel_rfl) ?_; simp only [go_sem]) | (at_builtin; refine wpList_runX 112 rfl (.tmp 43) (.tmp 45) rfl rfl rfl hr1 ?_) | go_values | go_skip | go_guarded | go_step | go_upon | go_back | dsimp only)
       have e1 : pickN (ofP Q X k) (j + 1) = pickN (ofP Q X k) j ++ [j] := by show (bif ofP Q X k j then _ else _) = _; unfold ofP; rw [hfA, hfB]; rfl
       refine ⟨⟨j + 1, by omega, by go_num, ?_, hr4 w1 (bl_trans (bl_trans hB1 hB2) B5) (Nat.le_refl _)⟩, by simp [intOf]; omega⟩
       rw [e1, List.length_append, show intsV (pickN (ofP Q X k) j ++ [j]) = intsV (pickN (ofP Q X k) j) ++ [.int .i64 (j : Int)] by unfold intsV; rw [List.map_append]; rfl]
       exact hr2
     ·rw [hfA] at kA
      repeat (first | (with_reducible show Oper.wp _ _ _ _ _ _; refine wp_load_mid (P := Try.prog) 43 _ rfl (wr.heap.size) 0 rfl [.int .i64 (Q j).ra, .int .i64 (Q j).rb, .float .f64 (Q j).r2, .float .f64 (Q j).r3, .float .f64 (Q j).r4, .float .f64 (Q j).r5, .float .f64 (Q j).r6, .float .f64 (Q j).r7, .float .f64 (Q j).r8, .float .f64 (Q j).r9, .float .f64 (Q j).r10, .float .f64 (Q j).r11, .int .i64 (Q j).ro, .float .f64 (Q j).r13] _ (by with_reducible assumption) Try.underlying43 rfl (by kernel_rfl) ?_; simp only [go_sem]) | ((with_reducible show Oper.wp _ ⟨_, Op.load 43 _, _, _, _, _⟩ _ _ _ _); refine wp_load_mid (P := Try.prog) 43 _ rfl _ _ rfl [.int .i64 (Q j).ra, .int .i64 (Q j).rb, .float .f64 (Q j).r2, .float .f64 (Q j).r3, .float .f64 (Q j).r4, .float .f64 (Q j).r5, .float .f64 (Q j).r6, .float .f64 (Q j).r7, .float .f64 (Q j).r8, .float .f64 (Q j).r9, .float .f64 (Q j).r10, .float .f64 (Q j).r11, .int .i64 (Q j).ro, .float .f64 (Q j).r13] _ hld Try.underlying43 rfl (by kernel_rfl) ?_; simp only [go_sem]) | ((with_reducible show Oper.wp _ ⟨_, Op.store 43 _ _, _, _, _, _⟩ _ _ _ _); refine wp_store_mid (P := Try.prog) 43 _ _ rfl (wr.heap.size) (0) #[.int .i64 (Q j).ra, .int .i64 (Q j).rb, .float .f64 (Q j).r2, .float .f64 (Q j).r3, .float .f64 (Q j).r4, .float .f64 (Q j).r5, .float .f64 (Q j).r6, .float .f64 (Q j).r7, .float .f64 (Q j).r8, .float .f64 (Q j).r9, .float .f64 (Q j).r10, .float .f64 (Q j).r11, .int .i64 (Q j).ro, .float .f64 (Q j).r13] rfl rfl hX9 (by kernel_rfl) (by kernel_rfl) ?_; simp only [go_sem]) | (at_builtin; refine wpList_runX 112 rfl (.tmp 43) (.tmp 45) rfl rfl rfl hr1 ?_) | go_values | go_skip | go_guarded | go_step | go_upon | go_back | dsimp only)
      have e1 : pickN (ofP Q X k) (j + 1) = pickN (ofP Q X k) j ++ [j] := by show (bif ofP Q X k j then _ else _) = _; unfold ofP; rw [hfA]; rfl
      refine ⟨⟨j + 1, by omega, by go_num, ?_, hr4 w1 (bl_trans (bl_trans hB1 hB2) B5) (Nat.le_refl _)⟩, by simp [intOf]; omega⟩
      rw [e1, List.length_append, show intsV (pickN (ofP Q X k) j ++ [j]) = intsV (pickN (ofP Q X k) j) ++ [.int .i64 (j : Int)] by unfold intsV; rw [List.map_append]; rfl]
      exact hr2
    ·have hjn : j = rn := by omega
     subst hjn
     repeat (first | go_values | go_skip | go_guarded | go_step | go_upon | go_back | dsimp only)
     go_ret
     exact ⟨_, hO.base9 hB.size, rfl, bl_trans hB hB1⟩

end Go.Proofs.Ytfohggiehbplkaa
