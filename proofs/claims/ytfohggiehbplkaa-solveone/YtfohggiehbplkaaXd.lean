/-
  What each function of package poly answers, and what the reference of its chapter answers: one contract a function, for every float: the answer stands in the relation of its formula to what was given; of the memory that was there nothing has turned.
-/
import Derived.Test.YtfohggiehbplkaaVec
import Derived.Test.YtfohggiehbplkaaXc
import Derived.Below
import Derived.OwnWalk
import Derived.Laws.AppendOwn
import Derived.Lib.SliceRun
import Derived.Laws.MakeOwn
import Derived.WalkKit
import Derived.WalkLawsBesides
import Derived.WalkSpells
import Derived.ProofKit
import Derived.OpenShut
import Derived.Deep.RegionHeld3
namespace Go.Proofs.Ytfohggiehbplkaa
open Go.ChangeShapes Go.WideShapes Go.ChangeAt Go.RowKit
set_option linter.unusedVariables false
set_option linter.unusedSimpArgs false


theorem there_sub {w : World} {b N o n : Nat} (h : w.there b 0 N) (g : o + n ≤ N) : w.there b o n := fun j hj => by
 have h1 := h (o + j) (by omega)
 rwa [Nat.zero_add] at h1
/-- a still as it lies, and as it is told: what can turn is known up to no numbers -/
structure RelS (s m : SD) : Prop where
 em : s.sm = m.sm
 ei : s.si = m.si
 okm : okK .f64 s.sm
 oki : okK .f64 s.si
 hx : isF s.sx m.sx
 hy : isF s.sy m.sy
 hs : isF s.ss m.ss
theorem RelS.ok {s m : SD} (h : RelS s m) : sok s := ⟨h.okm, h.oki, h.hx.1, h.hy.1, h.hs.1⟩
def tlS (s : SD) : SD := ⟨s.sm, s.si, bitsK s.sx, bitsK s.sy, bitsK s.ss⟩
theorem RelS.of {s : SD} (h : sok s) : RelS s (tlS s) := ⟨rfl, rfl, h.1, h.2.1, ⟨h.2.2.1, rfl⟩, ⟨h.2.2.2.1, rfl⟩, ⟨h.2.2.2.2, rfl⟩⟩
theorem isF_bits {x X : Nat} (h : isF x X) : bitsK X = X := by rw [← h.2, bits_bits]
def puM (a : SD) (gx gy g P : Nat) : SD := ⟨a.sm, a.si, puX a.sm a.sx gx P, puX a.sm a.sy gy P, puT a.si a.ss g P⟩
theorem puX_rel {m x X g P : Nat} (h : isF x X) : puX m x g P = puX m X g P := by unfold puX; rw [h.2, isF_bits h]
theorem puT_rel {m x X g P : Nat} (h : isF x X) : puT m x g P = puT m X g P := by unfold puT; rw [h.2, isF_bits h]
theorem pu_rel {a m : SD} {gx gy g P x y u : Nat} (h : RelS a m) (hx : isF x (puX a.sm a.sx gx P)) (hy : isF y (puX a.sm a.sy gy P)) (hu : isF u (puT a.si a.ss g P)) : RelS ⟨a.sm, a.si, x, y, u⟩ (puM m gx gy g P) := by
 rw [puX_rel h.hx, h.em] at hx
 rw [puX_rel h.hy, h.em] at hy
 rw [puT_rel h.hs, h.ei] at hu
 exact ⟨h.em, h.ei, h.okm, h.oki, hx, hy, hu⟩
theorem RelS.st {s m : SD} (h : RelS s m) : stB s = stB m := by unfold stB; rw [h.em, h.ei]
theorem RelS.mv {s m : SD} (h : RelS s m) : mvB s = mvB m := by unfold mvB; rw [h.em, h.ei]
def setF {α : Type} (f : Nat → α) (i : Nat) (x : α) : Nat → α := fun j => if j = i then x else f j
theorem setF_at {α : Type} (f : Nat → α) (i : Nat) (x : α) : setF f i x i = x := by unfold setF; rw [if_pos rfl]
theorem setF_ne {α : Type} (f : Nat → α) {i j : Nat} (x : α) (h : j ≠ i) : setF f i x j = f j := by unfold setF; rw [if_neg h]
/-- what warming makes of the stills, row by row -/
def warmM (Q : Nat → RD) (M : Nat → SD) : Nat → Nat → SD
 | 0 => M
 | k + 1 => setF (setF (warmM Q M k) (Q k).ra.toNat (puM (warmM Q M k (Q k).ra.toNat) (Q k).r2 (Q k).r3 (Q k).r6 (bitsK (Q k).r11))) (Q k).rb.toNat (puM (warmM Q M k (Q k).rb.toNat) (Q k).r4 (Q k).r5 (Q k).r7 (bitsK (Q k).r11))
theorem warm_st (Q : Nat → RD) (M : Nat → SD) : ∀ k i, stB (warmM Q M k i) = stB (M i)
 | 0, _ => rfl
 | k + 1, i => by
  have e : ∀ (s : SD) gx gy g P, stB (puM s gx gy g P) = stB s := fun _ _ _ _ _ => rfl
  unfold warmM setF
  split
  ·subst i; rw [e, warm_st Q M k]
  ·split
   ·subst i; rw [e, warm_st Q M k]
   ·exact warm_st Q M k i
/-- stills that lie in a block of their own, as they are told -/
structure StM (w : World) (g n : Nat) (M : Nat → SD) : Prop where
 thr : w.there g 0 (n * 5)
 at_ : ∃ S, Sts w g 0 n S ∧ ∀ i, i < n → RelS (S i) (M i)
theorem sts_lt {w : World} {b n : Nat} {S : Nat → SD} (h : Sts w b 0 n S) {i : Nat} (hi : i < n) : b < w.heap.size := World.block_lt_of_cell? w _ (h i hi 0 _ rfl)
theorem StM.bel {w w' : World} {g n : Nat} {M : Nat → SD} (h : StM w g n M) (b : Bel w w') : StM w' g n M := by
 obtain ⟨S, h1, h2⟩ := h.at_
 exact ⟨bel_there h.thr b, S, h1.bel b, h2⟩
theorem StM.away {w w' : World} {g n : Nat} {M : Nat → SD} {F : List Nat} (h : StM w g n M) (b : Fx F w w') (hg : g ∉ F) : StM w' g n M := by
 obtain ⟨S, h1, h2⟩ := h.at_
 exact ⟨b.thr _ _ _ h.thr, S, fun i hi => b.rng hg (h1 i hi), h2⟩

theorem cellsV_agg {l cs : List Value} (h : cellsV (.agg l.toArray) cs) (hn : cs.length ≠ 1) : cs = l := by
 rcases h with h | h
 ·injection h with h
  have := congrArg Array.toList h
  simpa using this.symm
 ·rw [h] at hn; simp at hn
theorem sts_two {W5 W : World} {g sn A B : Nat} {S : Nat → SD} {a' b' : SD} (hS : Sts W5 g 0 sn S) (hA : W.rangeAt g (A * 5) (sc a')) (hB : W.rangeAt g (B * 5) (sc b')) (hout : ∀ q, ¬ (A * 5 ≤ q ∧ q < A * 5 + 5) → ¬ (B * 5 ≤ q ∧ q < B * 5 + 5) → W.cell? ⟨g, q, none⟩ = W5.cell? ⟨g, q, none⟩) : Sts W g 0 sn (setF (setF S A a') B b') := fun i hi => by
 rw [Nat.zero_add]
 by_cases e : i = B
 ·subst e; rw [setF_at]; exact hB
 ·rw [setF_ne _ _ e]
  by_cases e2 : i = A
  ·subst e2; rw [setF_at]; exact hA
  ·rw [setF_ne _ _ e2]
   intro j v hj
   have h5 : j < 5 := (List.getElem?_eq_some_iff.1 hj).1
   have h1 := hS i hi j v hj
   rw [Nat.zero_add] at h1
   rw [hout _ (by omega) (by omega)]
   exact h1
theorem rel_two {n A B : Nat} {S M : Nat → SD} {a' b' x y : SD} (h : ∀ i, i < n → RelS (S i) (M i)) (ha : RelS a' x) (hb : RelS b' y) : ∀ i, i < n → RelS (setF (setF S A a') B b' i) (setF (setF M A x) B y i) := fun i hi => by
 by_cases e : i = B
 ·subst e; rw [setF_at, setF_at]; exact hb
 ·rw [setF_ne _ _ e, setF_ne _ _ e]
  by_cases e2 : i = A
  ·subst e2; rw [setF_at, setF_at]; exact ha
  ·rw [setF_ne _ _ e2, setF_ne _ _ e2]; exact h i hi

set_option maxRecDepth 100000 in
set_option maxHeartbeats 4000000 in
theorem warm_w (rb ro rn rc_ : Nat) (rs : Option Addr) (Q : Nat → RD) (g sn sc_ : Nat) (ss : Option Addr) (M : Nat → SD) (w : World) (hrs : rn = 0 ∨ rs = some ⟨rb, ro, none⟩) (hrc : rn ≤ rc_) (hrm : rc_ ≤ maxLen) (hr : Rws w rb ro rn Q) (or_ : ∀ i, i < rn → rok (Q i)) (hss : sn = 0 ∨ ss = some ⟨g, 0, none⟩) (hsc : sn ≤ sc_) (hsm : sc_ ≤ maxLen) (hg : StM w g sn M) (hne : rb ≠ g) (hst : ∀ i, i < sn → stB (M i) = true) (hch : ∀ i, i < rn → chB (Q i) rn sn = true) : Calls Try.prog 73 #[.agg #[.slice rs rn rc_, .slice ss sn sc_]] w fun e w' => StM w' g sn (warmM Q M rn) ∧ Fx [g] w w' ∧ e = .returned (.tuple #[]) := by
 unfold maxLen at hrm hsm
 have B0 : Bel w (w.alloc (.cells #[.slice rs rn rc_, .slice ss sn sc_] 116)) := bl_alloc (bl_refl w) _ _
 have hT : (w.alloc (.cells #[.slice rs rn rc_, .slice ss sn sc_] 116)).rangeAt w.heap.size 0 [.slice rs rn rc_, .slice ss sn sc_] := rng_new w [.slice rs rn rc_, .slice ss sn sc_] 116
 have k0 : (w.alloc (.cells #[.slice rs rn rc_, .slice ss sn sc_] 116)).cell? ⟨w.heap.size, 0, none⟩ = some (.slice rs rn rc_) := hT 0 _ rfl
 have k1 : (w.alloc (.cells #[.slice rs rn rc_, .slice ss sn sc_] 116)).cell? ⟨w.heap.size, 1, none⟩ = some (.slice ss sn sc_) := hT 1 _ rfl
 have hzT : (w.alloc (.cells #[.slice rs rn rc_, .slice ss sn sc_] 116)).heap.size = w.heap.size + 1 := by simp only [World.size_alloc]
 go_enter Try.func73, Try.ntmps73
 go_wp2
 go_loopw [9] (fun i wr => ∃ k : Nat, k ≤ rn ∧ i = .int .i64 k ∧ Fx [g] (w.alloc (.cells #[.slice rs rn rc_, .slice ss sn sc_] 116)) wr ∧ StM wr g sn (warmM Q M k)) (fun i _ => rn - (intOf i).toNat)
 case atStart => exact ⟨0, by omega, rfl, Fx.refl _ _, hg.bel B0⟩
 case round =>
  obtain ⟨k, hk, rfl, hF, hM⟩ := hrel
  by_cases hlt : k < rn
  ·have e9 : rs = some ⟨rb, ro, none⟩ := by rcases hrs with h | h; omega; exact h
   subst e9
   have hc := hch k hlt
   unfold chB at hc
   simp only [Bool.and_eq_true, decide_eq_true_eq] at hc
   obtain ⟨hmay, hc1, hc2, hc3⟩ := hc
   have hA0 : 0 ≤ (Q k).ra := by unfold mayB at hmay; simp only [Bool.and_eq_true, decide_eq_true_eq] at hmay; exact hmay.1
   have hB0 : 0 ≤ (Q k).rb := by unfold mayB at hmay; simp only [Bool.and_eq_true, decide_eq_true_eq] at hmay; exact hmay.2.1
   have hAB : (Q k).ra ≠ (Q k).rb := by unfold mayB at hmay; simp only [Bool.and_eq_true, decide_eq_true_eq] at hmay; exact hmay.2.2.1
   obtain ⟨S, hS, hRel⟩ := hM.at_
   have hAn : (Q k).ra.toNat < sn := by omega
   have hgw : g < w.heap.size := by obtain ⟨S0, q1, _⟩ := hg.at_; exact sts_lt q1 hAn
   have hBn : (Q k).rb.toNat < sn := by omega
   have e10 : ss = some ⟨g, 0, none⟩ := by rcases hss with h | h; omega; exact h
   subst e10
   have hgl : g < wr.heap.size := sts_lt hS hAn
   have hld : wr.rangeAt rb (ro + k * 14) [.int .i64 (Q k).ra, .int .i64 (Q k).rb, .float .f64 (Q k).r2, .float .f64 (Q k).r3, .float .f64 (Q k).r4, .float .f64 (Q k).r5, .float .f64 (Q k).r6, .float .f64 (Q k).r7, .float .f64 (Q k).r8, .float .f64 (Q k).r9, .float .f64 (Q k).r10, .float .f64 (Q k).r11, .int .i64 (Q k).ro, .float .f64 (Q k).r13] := hF.rng (by simp only [List.mem_singleton]; exact hne) ((hr.bel B0) k hlt)
   have hkI : (k : Int) < (rn : Int) := by omega
   have hX : (wr.alloc (.cells #[.int .i64 0, .int .i64 0, .float .f64 0, .float .f64 0, .float .f64 0, .float .f64 0, .float .f64 0, .float .f64 0, .float .f64 0, .float .f64 0, .float .f64 0, .float .f64 0, .int .i64 0, .float .f64 0] 43)).there wr.heap.size 0 14 := there_new wr [.int .i64 0, .int .i64 0, .float .f64 0, .float .f64 0, .float .f64 0, .float .f64 0, .float .f64 0, .float .f64 0, .float .f64 0, .float .f64 0, .float .f64 0, .float .f64 0, .int .i64 0, .float .f64 0] 43
   have hbx0 : ((wr.alloc (.cells #[.int .i64 0, .int .i64 0, .float .f64 0, .float .f64 0, .float .f64 0, .float .f64 0, .float .f64 0, .float .f64 0, .float .f64 0, .float .f64 0, .float .f64 0, .float .f64 0, .int .i64 0, .float .f64 0] 43)).setCells wr.heap.size 0 [.int .i64 (Q k).ra, .int .i64 (Q k).rb, .float .f64 (Q k).r2, .float .f64 (Q k).r3, .float .f64 (Q k).r4, .float .f64 (Q k).r5, .float .f64 (Q k).r6, .float .f64 (Q k).r7, .float .f64 (Q k).r8, .float .f64 (Q k).r9, .float .f64 (Q k).r10, .float .f64 (Q k).r11, .int .i64 (Q k).ro, .float .f64 (Q k).r13]).rangeAt wr.heap.size 0 [.int .i64 (Q k).ra, .int .i64 (Q k).rb, .float .f64 (Q k).r2, .float .f64 (Q k).r3, .float .f64 (Q k).r4, .float .f64 (Q k).r5, .float .f64 (Q k).r6, .float .f64 (Q k).r7, .float .f64 (Q k).r8, .float .f64 (Q k).r9, .float .f64 (Q k).r10, .float .f64 (Q k).r11, .int .i64 (Q k).ro, .float .f64 (Q k).r13] := World.rangeAt_setCells_same _ _ _ _ hX
   have hB2 : Bel wr ((wr.alloc (.cells #[.int .i64 0, .int .i64 0, .float .f64 0, .float .f64 0, .float .f64 0, .float .f64 0, .float .f64 0, .float .f64 0, .float .f64 0, .float .f64 0, .float .f64 0, .float .f64 0, .int .i64 0, .float .f64 0] 43)).setCells wr.heap.size 0 [.int .i64 (Q k).ra, .int .i64 (Q k).rb, .float .f64 (Q k).r2, .float .f64 (Q k).r3, .float .f64 (Q k).r4, .float .f64 (Q k).r5, .float .f64 (Q k).r6, .float .f64 (Q k).r7, .float .f64 (Q k).r8, .float .f64 (Q k).r9, .float .f64 (Q k).r10, .float .f64 (Q k).r11, .int .i64 (Q k).ro, .float .f64 (Q k).r13]) := bel_setsJ _ _ (bl_alloc (bl_refl _) _ _) (Nat.le_refl _)
   have t0 : wr.cell? ⟨w.heap.size, 1, none⟩ = some (.slice (some ⟨g, 0, none⟩) sn sc_) := hF.cell (by simp only [List.mem_singleton]; omega) k1
   have t1 := keep hB2 t0
   have c0 : ((wr.alloc (.cells #[.int .i64 0, .int .i64 0, .float .f64 0, .float .f64 0, .float .f64 0, .float .f64 0, .float .f64 0, .float .f64 0, .float .f64 0, .float .f64 0, .float .f64 0, .float .f64 0, .int .i64 0, .float .f64 0] 43)).setCells wr.heap.size 0 [.int .i64 (Q k).ra, .int .i64 (Q k).rb, .float .f64 (Q k).r2, .float .f64 (Q k).r3, .float .f64 (Q k).r4, .float .f64 (Q k).r5, .float .f64 (Q k).r6, .float .f64 (Q k).r7, .float .f64 (Q k).r8, .float .f64 (Q k).r9, .float .f64 (Q k).r10, .float .f64 (Q k).r11, .int .i64 (Q k).ro, .float .f64 (Q k).r13]).cell? ⟨wr.heap.size, 0, none⟩ = some (.int .i64 (Q k).ra) := hbx0 0 _ rfl
   have c1 : ((wr.alloc (.cells #[.int .i64 0, .int .i64 0, .float .f64 0, .float .f64 0, .float .f64 0, .float .f64 0, .float .f64 0, .float .f64 0, .float .f64 0, .float .f64 0, .float .f64 0, .float .f64 0, .int .i64 0, .float .f64 0] 43)).setCells wr.heap.size 0 [.int .i64 (Q k).ra, .int .i64 (Q k).rb, .float .f64 (Q k).r2, .float .f64 (Q k).r3, .float .f64 (Q k).r4, .float .f64 (Q k).r5, .float .f64 (Q k).r6, .float .f64 (Q k).r7, .float .f64 (Q k).r8, .float .f64 (Q k).r9, .float .f64 (Q k).r10, .float .f64 (Q k).r11, .int .i64 (Q k).ro, .float .f64 (Q k).r13]).cell? ⟨wr.heap.size, 1, none⟩ = some (.int .i64 (Q k).rb) := hbx0 1 _ rfl
   repeat (first | ((with_reducible show Oper.wp _ ⟨_, Op.load 43 _, _, _, _, _⟩ _ _ _ _); refine wp_load_mid (P := Try.prog) 43 _ rfl _ _ rfl [.int .i64 (Q k).ra, .int .i64 (Q k).rb, .float .f64 (Q k).r2, .float .f64 (Q k).r3, .float .f64 (Q k).r4, .float .f64 (Q k).r5, .float .f64 (Q k).r6, .float .f64 (Q k).r7, .float .f64 (Q k).r8, .float .f64 (Q k).r9, .float .f64 (Q k).r10, .float .f64 (Q k).r11, .int .i64 (Q k).ro, .float .f64 (Q k).r13] _ hld Try.underlying43 rfl (by kernel_rfl) ?_; simp only [go_sem]) | ((with_reducible show Oper.wp _ ⟨_, Op.store 43 _ _, _, _, _, _⟩ _ _ _ _); refine wp_store_mid (P := Try.prog) 43 _ _ rfl (wr.heap.size) (0) #[.int .i64 (Q k).ra, .int .i64 (Q k).rb, .float .f64 (Q k).r2, .float .f64 (Q k).r3, .float .f64 (Q k).r4, .float .f64 (Q k).r5, .float .f64 (Q k).r6, .float .f64 (Q k).r7, .float .f64 (Q k).r8, .float .f64 (Q k).r9, .float .f64 (Q k).r10, .float .f64 (Q k).r11, .int .i64 (Q k).ro, .float .f64 (Q k).r13] rfl rfl hX (by kernel_rfl) (by kernel_rfl) ?_; simp only [go_sem]) | go_values | go_skip | go_guarded | go_step | go_upon | go_back | dsimp only)
   have BN := belBy_some ((wr.alloc (.cells #[.int .i64 0, .int .i64 0, .float .f64 0, .float .f64 0, .float .f64 0, .float .f64 0, .float .f64 0, .float .f64 0, .float .f64 0, .float .f64 0, .float .f64 0, .float .f64 0, .int .i64 0, .float .f64 0] 43)).setCells wr.heap.size 0 [.int .i64 (Q k).ra, .int .i64 (Q k).rb, .float .f64 (Q k).r2, .float .f64 (Q k).r3, .float .f64 (Q k).r4, .float .f64 (Q k).r5, .float .f64 (Q k).r6, .float .f64 (Q k).r7, .float .f64 (Q k).r8, .float .f64 (Q k).r9, .float .f64 (Q k).r10, .float .f64 (Q k).r11, .int .i64 (Q k).ro, .float .f64 (Q k).r13])
   replace t1 := belBy_cell (W := ((wr.alloc (.cells #[.int .i64 0, .int .i64 0, .float .f64 0, .float .f64 0, .float .f64 0, .float .f64 0, .float .f64 0, .float .f64 0, .float .f64 0, .float .f64 0, .float .f64 0, .float .f64 0, .int .i64 0, .float .f64 0] 43)).setCells wr.heap.size 0 [.int .i64 (Q k).ra, .int .i64 (Q k).rb, .float .f64 (Q k).r2, .float .f64 (Q k).r3, .float .f64 (Q k).r4, .float .f64 (Q k).r5, .float .f64 (Q k).r6, .float .f64 (Q k).r7, .float .f64 (Q k).r8, .float .f64 (Q k).r9, .float .f64 (Q k).r10, .float .f64 (Q k).r11, .int .i64 (Q k).ro, .float .f64 (Q k).r13])) t1
   replace c0 := belBy_cell (W := ((wr.alloc (.cells #[.int .i64 0, .int .i64 0, .float .f64 0, .float .f64 0, .float .f64 0, .float .f64 0, .float .f64 0, .float .f64 0, .float .f64 0, .float .f64 0, .float .f64 0, .float .f64 0, .int .i64 0, .float .f64 0] 43)).setCells wr.heap.size 0 [.int .i64 (Q k).ra, .int .i64 (Q k).rb, .float .f64 (Q k).r2, .float .f64 (Q k).r3, .float .f64 (Q k).r4, .float .f64 (Q k).r5, .float .f64 (Q k).r6, .float .f64 (Q k).r7, .float .f64 (Q k).r8, .float .f64 (Q k).r9, .float .f64 (Q k).r10, .float .f64 (Q k).r11, .int .i64 (Q k).ro, .float .f64 (Q k).r13])) c0
   replace c1 := belBy_cell (W := ((wr.alloc (.cells #[.int .i64 0, .int .i64 0, .float .f64 0, .float .f64 0, .float .f64 0, .float .f64 0, .float .f64 0, .float .f64 0, .float .f64 0, .float .f64 0, .float .f64 0, .float .f64 0, .int .i64 0, .float .f64 0] 43)).setCells wr.heap.size 0 [.int .i64 (Q k).ra, .int .i64 (Q k).rb, .float .f64 (Q k).r2, .float .f64 (Q k).r3, .float .f64 (Q k).r4, .float .f64 (Q k).r5, .float .f64 (Q k).r6, .float .f64 (Q k).r7, .float .f64 (Q k).r8, .float .f64 (Q k).r9, .float .f64 (Q k).r10, .float .f64 (Q k).r11, .int .i64 (Q k).ro, .float .f64 (Q k).r13])) c1
   refine wp_region_quiet_bel (by kernel_rfl) (by kernel_rfl) ?_
   repeat (go_big_quiet_step (fail))
   refine wpQuiet_nil ?_
   rintro _ ⟨pW, rfl⟩
   have hS5 : Sts pW.world g 0 sn S := (hS.bel hB2).bel pW.h
   have hA : pW.world.rangeAt g ((Q k).ra.toNat * 5) [.float .f64 (S ((Q k).ra.toNat)).sm, .float .f64 (S ((Q k).ra.toNat)).si, .float .f64 (S ((Q k).ra.toNat)).sx, .float .f64 (S ((Q k).ra.toNat)).sy, .float .f64 (S ((Q k).ra.toNat)).ss] := by have h := hS5 _ hAn; rwa [Nat.zero_add] at h
   have hBb : pW.world.rangeAt g ((Q k).rb.toNat * 5) [.float .f64 (S ((Q k).rb.toNat)).sm, .float .f64 (S ((Q k).rb.toNat)).si, .float .f64 (S ((Q k).rb.toNat)).sx, .float .f64 (S ((Q k).rb.toNat)).sy, .float .f64 (S ((Q k).rb.toNat)).ss] := by have h := hS5 _ hBn; rwa [Nat.zero_add] at h
   have hbx : pW.world.rangeAt wr.heap.size 0 [.int .i64 (Q k).ra, .int .i64 (Q k).rb, .float .f64 (Q k).r2, .float .f64 (Q k).r3, .float .f64 (Q k).r4, .float .f64 (Q k).r5, .float .f64 (Q k).r6, .float .f64 (Q k).r7, .float .f64 (Q k).r8, .float .f64 (Q k).r9, .float .f64 (Q k).r10, .float .f64 (Q k).r11, .int .i64 (Q k).ro, .float .f64 (Q k).r13] := rng_bel hbx0 pW.h
   have hth9 : pW.world.there g 0 (sn * 5) := bel_there (bel_there hM.thr hB2) pW.h
   have hlA : (Q k).ra.toNat * 5 + 5 ≤ sn * 5 := by omega
   have hlB : (Q k).rb.toNat * 5 + 5 ≤ sn * 5 := by omega
   have hgl5 : g < pW.world.heap.size := sts_lt hS5 hAn
   have oQ := or_ k hlt
   have oA := (hRel _ hAn).ok
   have oB := (hRel _ hBn).ok
   have hal : alB (Q k) (S ((Q k).ra.toNat)) (S ((Q k).rb.toNat)) = true := by unfold alB; rw [hmay, (hRel _ hAn).st, (hRel _ hBn).st, warm_st, warm_st, hst _ hAn, hst _ hBn]; rfl
   repeat (first | go_values | go_skip | go_guarded | go_step | go_upon | go_back | dsimp only)
   refine wp_region_knot 18 rfl (fun i v => match i with | 0 => v = .pointer (some ⟨g, (Q k).ra.toNat * 5, none⟩) | 1 => v = .pointer (some ⟨g, (Q k).rb.toNat * 5, none⟩) | 2 => v = .agg #[.int .i64 (Q k).ra, .int .i64 (Q k).rb, .float .f64 (Q k).r2, .float .f64 (Q k).r3, .float .f64 (Q k).r4, .float .f64 (Q k).r5, .float .f64 (Q k).r6, .float .f64 (Q k).r7, .float .f64 (Q k).r8, .float .f64 (Q k).r9, .float .f64 (Q k).r10, .float .f64 (Q k).r11, .int .i64 (Q k).ro, .float .f64 (Q k).r13] | 3 => v = .pointer (some ⟨g, (Q k).ra.toNat * 5, none⟩) | 4 => v = .pointer (some ⟨g, (Q k).ra.toNat * 5, none⟩) | 5 => v = .agg #[.float .f64 (S ((Q k).ra.toNat)).sm, .float .f64 (S ((Q k).ra.toNat)).si, .float .f64 (S ((Q k).ra.toNat)).sx, .float .f64 (S ((Q k).ra.toNat)).sy, .float .f64 (S ((Q k).ra.toNat)).ss] | 6 => v = .pointer (some ⟨g, (Q k).rb.toNat * 5, none⟩) | 7 => v = .pointer (some ⟨g, (Q k).rb.toNat * 5, none⟩) | 8 => v = .agg #[.float .f64 (S ((Q k).rb.toNat)).sm, .float .f64 (S ((Q k).rb.toNat)).si, .float .f64 (S ((Q k).rb.toNat)).sx, .float .f64 (S ((Q k).rb.toNat)).sy, .float .f64 (S ((Q k).rb.toNat)).ss] | 9 => ∃ x1 y1 u1 x2 y2 u2, (isF x1 (puX (S ((Q k).ra.toNat)).sm (S ((Q k).ra.toNat)).sx (Q k).r2 (bitsK (Q k).r11)) ∧ isF y1 (puX (S ((Q k).ra.toNat)).sm (S ((Q k).ra.toNat)).sy (Q k).r3 (bitsK (Q k).r11)) ∧ isF u1 (puT (S ((Q k).ra.toNat)).si (S ((Q k).ra.toNat)).ss (Q k).r6 (bitsK (Q k).r11))) ∧ (isF x2 (puX (S ((Q k).rb.toNat)).sm (S ((Q k).rb.toNat)).sx (Q k).r4 (bitsK (Q k).r11)) ∧ isF y2 (puX (S ((Q k).rb.toNat)).sm (S ((Q k).rb.toNat)).sy (Q k).r5 (bitsK (Q k).r11)) ∧ isF u2 (puT (S ((Q k).rb.toNat)).si (S ((Q k).rb.toNat)).ss (Q k).r7 (bitsK (Q k).r11))) ∧ v = .tuple #[.agg #[.float .f64 (S ((Q k).ra.toNat)).sm, .float .f64 (S ((Q k).ra.toNat)).si, .float .f64 x1, .float .f64 y1, .float .f64 u1], .agg #[.float .f64 (S ((Q k).rb.toNat)).sm, .float .f64 (S ((Q k).rb.toNat)).si, .float .f64 x2, .float .f64 y2, .float .f64 u2], .int .i64 0] | 10 => ∃ x1 y1 u1 x2 y2 u2, (isF x1 (puX (S ((Q k).ra.toNat)).sm (S ((Q k).ra.toNat)).sx (Q k).r2 (bitsK (Q k).r11)) ∧ isF y1 (puX (S ((Q k).ra.toNat)).sm (S ((Q k).ra.toNat)).sy (Q k).r3 (bitsK (Q k).r11)) ∧ isF u1 (puT (S ((Q k).ra.toNat)).si (S ((Q k).ra.toNat)).ss (Q k).r6 (bitsK (Q k).r11))) ∧ (isF x2 (puX (S ((Q k).rb.toNat)).sm (S ((Q k).rb.toNat)).sx (Q k).r4 (bitsK (Q k).r11)) ∧ isF y2 (puX (S ((Q k).rb.toNat)).sm (S ((Q k).rb.toNat)).sy (Q k).r5 (bitsK (Q k).r11)) ∧ isF u2 (puT (S ((Q k).rb.toNat)).si (S ((Q k).rb.toNat)).ss (Q k).r7 (bitsK (Q k).r11))) ∧ v = .tuple #[.agg #[.float .f64 (S ((Q k).ra.toNat)).sm, .float .f64 (S ((Q k).ra.toNat)).si, .float .f64 x1, .float .f64 y1, .float .f64 u1], .agg #[.float .f64 (S ((Q k).rb.toNat)).sm, .float .f64 (S ((Q k).rb.toNat)).si, .float .f64 x2, .float .f64 y2, .float .f64 u2], .int .i64 0] | 11 => ∃ x1 y1 u1, (isF x1 (puX (S ((Q k).ra.toNat)).sm (S ((Q k).ra.toNat)).sx (Q k).r2 (bitsK (Q k).r11)) ∧ isF y1 (puX (S ((Q k).ra.toNat)).sm (S ((Q k).ra.toNat)).sy (Q k).r3 (bitsK (Q k).r11)) ∧ isF u1 (puT (S ((Q k).ra.toNat)).si (S ((Q k).ra.toNat)).ss (Q k).r6 (bitsK (Q k).r11))) ∧ v = .agg #[.float .f64 (S ((Q k).ra.toNat)).sm, .float .f64 (S ((Q k).ra.toNat)).si, .float .f64 x1, .float .f64 y1, .float .f64 u1] | 12 => ∃ x2 y2 u2, (isF x2 (puX (S ((Q k).rb.toNat)).sm (S ((Q k).rb.toNat)).sx (Q k).r4 (bitsK (Q k).r11)) ∧ isF y2 (puX (S ((Q k).rb.toNat)).sm (S ((Q k).rb.toNat)).sy (Q k).r5 (bitsK (Q k).r11)) ∧ isF u2 (puT (S ((Q k).rb.toNat)).si (S ((Q k).rb.toNat)).ss (Q k).r7 (bitsK (Q k).r11))) ∧ v = .agg #[.float .f64 (S ((Q k).rb.toNat)).sm, .float .f64 (S ((Q k).rb.toNat)).si, .float .f64 x2, .float .f64 y2, .float .f64 u2] | 13 => v = .int .i64 0 | 14 => v = .pointer (some ⟨g, (Q k).ra.toNat * 5, none⟩) | 16 => v = .pointer (some ⟨g, (Q k).rb.toNat * 5, none⟩) | _ => False) (fun i => match i with | 2 => true | 5 => true | 8 => true | 9 => true | _ => false) (fun i => match i with | 15 => some (g, (Q k).ra.toNat * 5, 11) | 17 => some (g, (Q k).rb.toNat * 5, 12) | _ => none) (fun i => match i with | 15 => 5 | 17 => 5 | _ => 0) [g] 4 ?A_kw (by kernel_rfl) (by kernel_rfl) ?hA_kw ?hpre_kw ?hdep_kw ?hne_kw ?hq_kw ?hp_kw ?hst_kw ?ht_kw
   case hA_kw =>
    intro s
    simp only [putL, dstO, Act.put, List.getElem?_toArray, List.getElem?_cons_zero, List.getElem?_cons_succ, Option.bind_some, List.setIfInBounds_toArray, List.set_cons_zero, List.set_cons_succ, if_true]
    all_goals exact rfl
   case hpre_kw =>
    intro i j b o d hi hr hso
    have hj : j = 15 ∨ j = 17 := by
     split at hso
     all_goals first | omega | (cases hso; done)
    rcases (show i = 0 ∨ i = 1 ∨ i = 2 ∨ i = 3 ∨ i = 4 ∨ i = 5 ∨ i = 6 ∨ i = 7 ∨ i = 8 ∨ i = 9 ∨ i = 10 ∨ i = 11 ∨ i = 12 ∨ i = 13 ∨ i = 14 ∨ i = 15 ∨ i = 16 ∨ i = 17 by omega) with rfl | rfl | rfl | rfl | rfl | rfl | rfl | rfl | rfl | rfl | rfl | rfl | rfl | rfl | rfl | rfl | rfl | rfl
    all_goals first
     | (cases hr; done)
     | (rcases hj with rfl | rfl <;> (show rch _ _ _ _ = true) <;> kernel_rfl)
   case hdep_kw =>
    intro i b o d hso
    split at hso
    all_goals first | (cases hso; done) | (cases hso; exact ⟨by decide, rfl, by simp, by decide, rfl, by kernel_rfl⟩)
   case hne_kw =>
    intro i j b o d o' d' hij h1 h2
    split at h1
    all_goals (try (cases h1; done))
    all_goals split at h2
    all_goals (try (cases h2; done))
    all_goals (cases h1; cases h2; first | (exact absurd rfl hij) | (exact absurd rfl hne9) | (exact absurd rfl hne9.symm) | (simp only []; omega) | omega)
   case hq_kw =>
    intro i o hi ho hso hrd s hs W hb K hK
    rcases (show i = 0 ∨ i = 1 ∨ i = 2 ∨ i = 3 ∨ i = 4 ∨ i = 5 ∨ i = 6 ∨ i = 7 ∨ i = 8 ∨ i = 9 ∨ i = 10 ∨ i = 11 ∨ i = 12 ∨ i = 13 ∨ i = 14 ∨ i = 15 ∨ i = 16 ∨ i = 17 by omega) with rfl | rfl | rfl | rfl | rfl | rfl | rfl | rfl | rfl | rfl | rfl | rfl | rfl | rfl | rfl | rfl | rfl | rfl
    ·cases hrd
    ·cases hrd
    ·cases ho
     simp only [Act.put, List.setIfInBounds_toArray, List.set_cons_zero, List.set_cons_succ] at hK
     clear hs
     refine wp_load_mid (P := Try.prog) 43 _ rfl _ _ rfl [.int .i64 (Q k).ra, .int .i64 (Q k).rb, .float .f64 (Q k).r2, .float .f64 (Q k).r3, .float .f64 (Q k).r4, .float .f64 (Q k).r5, .float .f64 (Q k).r6, .float .f64 (Q k).r7, .float .f64 (Q k).r8, .float .f64 (Q k).r9, .float .f64 (Q k).r10, .float .f64 (Q k).r11, .int .i64 (Q k).ro, .float .f64 (Q k).r13] _ (rng_bel hbx hb) Try.underlying43 rfl (by kernel_rfl) ?_; exact hK.out _ _ rfl (bl_refl _)
    ·cases hrd
    ·cases hrd
    ·cases ho
     have e4 : s 4 = _ := hs 4 (by decide) rfl (by kernel_rfl)
     simp only [e4] at hK ⊢
     simp only [Act.put, List.setIfInBounds_toArray, List.set_cons_zero, List.set_cons_succ] at hK
     clear hs
     refine wp_load_mid (P := Try.prog) 45 _ rfl _ _ rfl [.float .f64 (S ((Q k).ra.toNat)).sm, .float .f64 (S ((Q k).ra.toNat)).si, .float .f64 (S ((Q k).ra.toNat)).sx, .float .f64 (S ((Q k).ra.toNat)).sy, .float .f64 (S ((Q k).ra.toNat)).ss] _ (rng_bel hA hb) Try.underlying45 rfl (by kernel_rfl) ?_; exact hK.out _ _ rfl (bl_refl _)
    ·cases hrd
    ·cases hrd
    ·cases ho
     have e7 : s 7 = _ := hs 7 (by decide) rfl (by kernel_rfl)
     simp only [e7] at hK ⊢
     simp only [Act.put, List.setIfInBounds_toArray, List.set_cons_zero, List.set_cons_succ] at hK
     clear hs
     refine wp_load_mid (P := Try.prog) 45 _ rfl _ _ rfl [.float .f64 (S ((Q k).rb.toNat)).sm, .float .f64 (S ((Q k).rb.toNat)).si, .float .f64 (S ((Q k).rb.toNat)).sx, .float .f64 (S ((Q k).rb.toNat)).sy, .float .f64 (S ((Q k).rb.toNat)).ss] _ (rng_bel hBb hb) Try.underlying45 rfl (by kernel_rfl) ?_; exact hK.out _ _ rfl (bl_refl _)
    ·cases ho
     have e2 : s 2 = _ := hs 2 (by decide) rfl (by kernel_rfl)
     have e5 : s 5 = _ := hs 5 (by decide) rfl (by kernel_rfl)
     have e8 : s 8 = _ := hs 8 (by decide) rfl (by kernel_rfl)
     simp only [e2, e5, e8] at hK ⊢
     simp only [Act.put, List.setIfInBounds_toArray, List.set_cons_zero, List.set_cons_succ] at hK
     clear hs
     go_simp
     all_goals (try go_wp2_with (first | (go_at_call 117; (with_reducible refine (wrm_ok (Q k) (S ((Q k).ra.toNat)) (S ((Q k).rb.toNat)) _ oQ oA oB hal).mono ?_); rintro e w' ⟨x1, y1, u1, x2, y2, u2, q1, q2, q3, q4, q5, q6, rfl, hb1⟩)))
     all_goals first | exact hK.out _ _ ⟨x1, y1, u1, x2, y2, u2, ⟨q1, q2, q3⟩, ⟨q4, q5, q6⟩, rfl⟩ hb1 | with_reducible exact hK.out _ _ rfl (bl_refl _) | exact hK.out _ _ rfl (bl_refl _)
    ·cases hrd
    ·cases hrd
    ·cases hrd
    ·cases hrd
    ·cases hrd
    ·cases hso
    ·cases hrd
    ·cases hso
   case hp_kw =>
    intro i o hi ho hso hrd s hs W K hK
    rcases (show i = 0 ∨ i = 1 ∨ i = 2 ∨ i = 3 ∨ i = 4 ∨ i = 5 ∨ i = 6 ∨ i = 7 ∨ i = 8 ∨ i = 9 ∨ i = 10 ∨ i = 11 ∨ i = 12 ∨ i = 13 ∨ i = 14 ∨ i = 15 ∨ i = 16 ∨ i = 17 by omega) with rfl | rfl | rfl | rfl | rfl | rfl | rfl | rfl | rfl | rfl | rfl | rfl | rfl | rfl | rfl | rfl | rfl | rfl
    rotate_left 2
    ·cases hrd
    rotate_left 1
    cases ho
    have e3 : s 3 = _ := hs 3 (by decide) rfl (by kernel_rfl)
    simp only [e3] at hK ⊢
    rotate_left 1
    ·cases hrd
    rotate_left 1
    cases ho
    have e6 : s 6 = _ := hs 6 (by decide) rfl (by kernel_rfl)
    simp only [e6] at hK ⊢
    rotate_left 1
    ·cases hrd
    ·cases hrd
    ·cases ho
     obtain ⟨x1, y1, u1, x2, y2, u2, q1, q2, e9⟩ := hs 9 (by decide) rfl (by kernel_rfl)
     simp only [e9] at hK ⊢
     simp only [Act.put, List.setIfInBounds_toArray, List.set_cons_zero, List.set_cons_succ] at hK
     clear hs
     go_simp
     all_goals first | exact hK.out _ ⟨x1, y1, u1, x2, y2, u2, q1, q2, rfl⟩ | with_reducible exact hK.out _ rfl | exact hK.out _ rfl
    ·cases ho
     obtain ⟨x1, y1, u1, x2, y2, u2, q1, q2, e10⟩ := hs 10 (by decide) rfl (by kernel_rfl)
     simp only [e10] at hK ⊢
     simp only [Act.put, List.setIfInBounds_toArray, List.set_cons_zero, List.set_cons_succ] at hK
     clear hs
     go_simp
     all_goals first | exact hK.out _ ⟨x1, y1, u1, q1, rfl⟩ | with_reducible exact hK.out _ rfl | exact hK.out _ rfl
    ·cases ho
     obtain ⟨x1, y1, u1, x2, y2, u2, q1, q2, e10⟩ := hs 10 (by decide) rfl (by kernel_rfl)
     simp only [e10] at hK ⊢
     simp only [Act.put, List.setIfInBounds_toArray, List.set_cons_zero, List.set_cons_succ] at hK
     clear hs
     go_simp
     all_goals first | exact hK.out _ ⟨x2, y2, u2, q2, rfl⟩ | with_reducible exact hK.out _ rfl | exact hK.out _ rfl
    cases ho
    obtain ⟨x1, y1, u1, x2, y2, u2, q1, q2, e10⟩ := hs 10 (by decide) rfl (by kernel_rfl)
    simp only [e10] at hK ⊢
    rotate_left 1
    cases ho
    have e0 : s 0 = _ := hs 0 (by decide) rfl (by kernel_rfl)
    simp only [e0] at hK ⊢
    rotate_left 1
    ·cases hso
    cases ho
    have e1 : s 1 = _ := hs 1 (by decide) rfl (by kernel_rfl)
    simp only [e1] at hK ⊢
    rotate_left 1
    ·cases hso
    all_goals
     try cases ho
     simp only [Act.put, List.setIfInBounds_toArray, List.set_cons_zero, List.set_cons_succ] at hK
     clear hs
     go_simp
     all_goals first | with_reducible exact hK.out _ rfl | exact hK.out _ rfl
   case hst_kw =>
    intro i o b q d hi ho hso s hs W hb K hK
    rcases (show i = 0 ∨ i = 1 ∨ i = 2 ∨ i = 3 ∨ i = 4 ∨ i = 5 ∨ i = 6 ∨ i = 7 ∨ i = 8 ∨ i = 9 ∨ i = 10 ∨ i = 11 ∨ i = 12 ∨ i = 13 ∨ i = 14 ∨ i = 15 ∨ i = 16 ∨ i = 17 by omega) with rfl | rfl | rfl | rfl | rfl | rfl | rfl | rfl | rfl | rfl | rfl | rfl | rfl | rfl | rfl | rfl | rfl | rfl
    ·cases hso
    ·cases hso
    ·cases hso
    ·cases hso
    ·cases hso
    ·cases hso
    ·cases hso
    ·cases hso
    ·cases hso
    ·cases hso
    ·cases hso
    ·cases hso
    ·cases hso
    ·cases hso
    ·cases hso
    ·cases ho
     cases hso
     obtain ⟨x3, y3, u3, q3, e11⟩ := hs 11 (by decide) rfl (by kernel_rfl)
     have e14 : s 14 = _ := hs 14 (by decide) rfl (by kernel_rfl)
     simp only [e11, e14] at hK ⊢
     have hth := there_sub (hb.thr _ _ _ hth9) hlA
     refine wp_store_mid (P := Try.prog) 45 _ _ rfl (g) ((Q k).ra.toNat * 5) #[.float .f64 (S ((Q k).ra.toNat)).sm, .float .f64 (S ((Q k).ra.toNat)).si, .float .f64 x3, .float .f64 y3, .float .f64 u3] rfl rfl hth (by kernel_rfl) (by kernel_rfl) ?_
     exact hK.out [.float .f64 (S ((Q k).ra.toNat)).sm, .float .f64 (S ((Q k).ra.toNat)).si, .float .f64 x3, .float .f64 y3, .float .f64 u3] (.inl rfl) rfl hth
    ·cases hso
    ·cases ho
     cases hso
     obtain ⟨x4, y4, u4, q4, e12⟩ := hs 12 (by decide) rfl (by kernel_rfl)
     have e16 : s 16 = _ := hs 16 (by decide) rfl (by kernel_rfl)
     simp only [e12, e16] at hK ⊢
     have hth := there_sub (hb.thr _ _ _ hth9) hlB
     refine wp_store_mid (P := Try.prog) 45 _ _ rfl (g) ((Q k).rb.toNat * 5) #[.float .f64 (S ((Q k).rb.toNat)).sm, .float .f64 (S ((Q k).rb.toNat)).si, .float .f64 x4, .float .f64 y4, .float .f64 u4] rfl rfl hth (by kernel_rfl) (by kernel_rfl) ?_
     exact hK.out [.float .f64 (S ((Q k).rb.toNat)).sm, .float .f64 (S ((Q k).rb.toNat)).si, .float .f64 x4, .float .f64 y4, .float .f64 u4] (.inl rfl) rfl hth
   case ht_kw =>
    intro s hs W hfx hout hin
    have e0 : s 0 = _ := hs 0 (by decide) rfl
    have e1 : s 1 = _ := hs 1 (by decide) rfl
    have e2 : s 2 = _ := hs 2 (by decide) rfl
    have e3 : s 3 = _ := hs 3 (by decide) rfl
    have e4 : s 4 = _ := hs 4 (by decide) rfl
    have e5 : s 5 = _ := hs 5 (by decide) rfl
    have e6 : s 6 = _ := hs 6 (by decide) rfl
    have e7 : s 7 = _ := hs 7 (by decide) rfl
    have e8 : s 8 = _ := hs 8 (by decide) rfl
    obtain ⟨x1, y1, u1, x2, y2, u2, q1, q2, e9⟩ := hs 9 (by decide) rfl
    obtain ⟨x1, y1, u1, x2, y2, u2, q1, q2, e10⟩ := hs 10 (by decide) rfl
    obtain ⟨x3, y3, u3, q3, e11⟩ := hs 11 (by decide) rfl
    obtain ⟨x4, y4, u4, q4, e12⟩ := hs 12 (by decide) rfl
    have e13 : s 13 = _ := hs 13 (by decide) rfl
    have e14 : s 14 = _ := hs 14 (by decide) rfl
    have e16 : s 16 = _ := hs 16 (by decide) rfl
    simp only [e0, e1, e2, e3, e4, e5, e6, e7, e8, e9, e10, e11, e12, e13, e14, e16]
    obtain ⟨cs1, g1, g2, g3⟩ := hin 15 _ _ _ rfl
    obtain ⟨cs2, g4, g5, g6⟩ := hin 17 _ _ _ rfl
    rw [e11] at g1
    rw [e12] at g4
    have i1 := cellsV_agg (l := [.float .f64 (S ((Q k).ra.toNat)).sm, .float .f64 (S ((Q k).ra.toNat)).si, .float .f64 x3, .float .f64 y3, .float .f64 u3]) g1 (by rw [g2]; decide)
    have i2 := cellsV_agg (l := [.float .f64 (S ((Q k).rb.toNat)).sm, .float .f64 (S ((Q k).rb.toNat)).si, .float .f64 x4, .float .f64 y4, .float .f64 u4]) g4 (by rw [g5]; decide)
    subst i1 i2
    clear hs hin g1 g2 g4 g5 e0 e1 e2 e3 e4 e5 e6 e7 e8 e9 e10 e11 e12 e13 e14 e16
    have hS9 := sts_two (a' := ⟨(S ((Q k).ra.toNat)).sm, (S ((Q k).ra.toNat)).si, x3, y3, u3⟩) (b' := ⟨(S ((Q k).rb.toNat)).sm, (S ((Q k).rb.toNat)).si, x4, y4, u4⟩) hS5 g3 g6 (fun q n1 n2 => hout g q hgl5 (by rintro ⟨j, o, d, h1, h2, h3, h4⟩; dsimp only at h1 h4; split at h1 <;> cases h1; exact n1 ⟨h3, h4⟩; exact n2 ⟨h3, h4⟩))
    have hR9 := rel_two (A := (Q k).ra.toNat) (B := (Q k).rb.toNat) hRel (pu_rel (hRel ((Q k).ra.toNat) hAn) q3.1 q3.2.1 q3.2.2) (pu_rel (hRel ((Q k).rb.toNat) hBn) q4.1 q4.2.1 q4.2.2)
    repeat (first | go_values | go_skip | go_guarded | go_step | go_upon | go_back | dsimp only)
    exact ⟨⟨k + 1, by omega, by go_num, (hF.trans (Fx.of_bel (bl_trans hB2 pW.h))).trans hfx, hfx.thr _ _ _ hth9, _, hS9, hR9⟩, by simp [intOf]; omega⟩
  ·have hkn : k = rn := by omega
   subst hkn
   repeat (first | go_values | go_skip | go_guarded | go_step | go_upon | go_back | dsimp only)
   refine bodyPost_end (results_none rfl _ _ _) rfl ?_
   exact ⟨hM, (Fx.of_bel B0).trans hF, rfl⟩

end Go.Proofs.Ytfohggiehbplkaa
