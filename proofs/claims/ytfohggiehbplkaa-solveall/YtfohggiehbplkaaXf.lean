/-
  What each function of package poly answers, and what the reference of its chapter answers: one contract a function, for every float: the answer stands in the relation of its formula to what was given; of the memory that was there nothing has turned.
-/
import Derived.Test.YtfohggiehbplkaaVec
import Derived.Test.YtfohggiehbplkaaXe
import Derived.Below
import Derived.OwnWalk
import Derived.Laws.AppendOwn
import Derived.Lib.SliceRun
import Derived.Laws.MakeOwn
import Derived.WalkKit
import Derived.WalkLawsBesides
import Derived.WalkSpells
import Derived.ProofKit
import Derived.OpenShut
import Derived.Deep.RegionHeld3
namespace Go.Proofs.Ytfohggiehbplkaa
open Go.ChangeShapes Go.WideShapes Go.ChangeAt Go.RowKit
set_option linter.unusedVariables false
set_option linter.unusedSimpArgs false


/-- a row as its turn begins: its ends told -/
def toR (Q : Nat → RD) (k : Nat) : RD := if 0 ≤ (Q k).ro then { Q k with r9 := oF .sub 0 (enF (Q k) (Q (Q k).ro.toNat).r11), r10 := enF (Q k) (Q (Q k).ro.toNat).r11 } else Q k
def onQ (T : RD) (a b : SD) : RD := bif slB T a b then { T with r11 := quF T a b } else T
def onX (T : RD) (a b : SD) : SD := bif slB T a b then puM a T.r2 T.r3 T.r6 (dfF T a b) else a
def onY (T : RD) (a b : SD) : SD := bif slB T a b then puM b T.r4 T.r5 T.r7 (dfF T a b) else b
def onR (T : RD) (a b : SD) : RD := bif mvB a || mvB b then onQ T a b else T
def onA (T : RD) (a b : SD) : SD := bif mvB a || mvB b then onX T a b else a
def onB (T : RD) (a b : SD) : SD := bif mvB a || mvB b then onY T a b else b
/-- a round, row by row -/
def rndM (Q : Nat → RD) (M : Nat → SD) : Nat → (Nat → RD) × (Nat → SD)
 | 0 => (Q, M)
 | k + 1 => (setF (rndM Q M k).1 k (onR (toR (rndM Q M k).1 k) ((rndM Q M k).2 ((rndM Q M k).1 k).ra.toNat) ((rndM Q M k).2 ((rndM Q M k).1 k).rb.toNat)),
   setF (setF (rndM Q M k).2 ((rndM Q M k).1 k).ra.toNat (onA (toR (rndM Q M k).1 k) ((rndM Q M k).2 ((rndM Q M k).1 k).ra.toNat) ((rndM Q M k).2 ((rndM Q M k).1 k).rb.toNat))) ((rndM Q M k).1 k).rb.toNat (onB (toR (rndM Q M k).1 k) ((rndM Q M k).2 ((rndM Q M k).1 k).ra.toNat) ((rndM Q M k).2 ((rndM Q M k).1 k).rb.toNat)))
theorem sp_rel {T : RD} {a b m n : SD} (h : RelS a m) (g : RelS b n) : spF T a b = spF T m n := by
 unfold spF nP
 simp only [h.hx.2, h.hy.2, h.hs.2, g.hx.2, g.hy.2, g.hs.2, isF_bits h.hx, isF_bits h.hy, isF_bits h.hs, isF_bits g.hx, isF_bits g.hy, isF_bits g.hs]
theorem wt_rel {T : RD} {a b m n : SD} (h : RelS a m) (g : RelS b n) : wtF T a b = wtF T m n := by unfold wtF; rw [h.em, h.ei, g.em, g.ei]
theorem lk_rel {T : RD} {a b m n : SD} (h : RelS a m) (g : RelS b n) : lkF T a b = lkF T m n := by unfold lkF; rw [sp_rel h g]
theorem qu_rel {T : RD} {a b m n : SD} (h : RelS a m) (g : RelS b n) : quF T a b = quF T m n := by unfold quF; rw [lk_rel h g, wt_rel h g]
theorem df_rel {T : RD} {a b m n : SD} (h : RelS a m) (g : RelS b n) : dfF T a b = dfF T m n := by unfold dfF; rw [qu_rel h g]
theorem sl_rel {T : RD} {a b m n : SD} (h : RelS a m) (g : RelS b n) : slB T a b = slB T m n := by unfold slB okB fiB; rw [lk_rel h g, wt_rel h g, qu_rel h g, df_rel h g]
theorem sl_fin {T : RD} {a b : SD} (h : slB T a b = true) : finK .f64 (quF T a b) = true := by
 unfold slB fiB at h
 simp only [Bool.and_eq_true] at h
 exact h.2.1
set_option maxRecDepth 100000 in
set_option maxHeartbeats 4000000 in
theorem one_m (T : RD) (a b m n : SD) (w : World) (oR : rok T) (h : RelS a m) (g : RelS b n) (hal : alB T a b = true) : Calls Try.prog 18 #[.agg #[.int .i64 T.ra, .int .i64 T.rb, .float .f64 T.r2, .float .f64 T.r3, .float .f64 T.r4, .float .f64 T.r5, .float .f64 T.r6, .float .f64 T.r7, .float .f64 T.r8, .float .f64 T.r9, .float .f64 T.r10, .float .f64 T.r11, .int .i64 T.ro, .float .f64 T.r13], .agg #[.float .f64 a.sm, .float .f64 a.si, .float .f64 a.sx, .float .f64 a.sy, .float .f64 a.ss], .agg #[.float .f64 b.sm, .float .f64 b.si, .float .f64 b.sx, .float .f64 b.sy, .float .f64 b.ss]] w fun e w' => ∃ A B : SD, RelS A (onX T m n) ∧ RelS B (onY T m n) ∧ e = .returned (.tuple #[.agg #[.int .i64 (onQ T m n).ra, .int .i64 (onQ T m n).rb, .float .f64 (onQ T m n).r2, .float .f64 (onQ T m n).r3, .float .f64 (onQ T m n).r4, .float .f64 (onQ T m n).r5, .float .f64 (onQ T m n).r6, .float .f64 (onQ T m n).r7, .float .f64 (onQ T m n).r8, .float .f64 (onQ T m n).r9, .float .f64 (onQ T m n).r10, .float .f64 (onQ T m n).r11, .int .i64 (onQ T m n).ro, .float .f64 (onQ T m n).r13], .agg #[.float .f64 A.sm, .float .f64 A.si, .float .f64 A.sx, .float .f64 A.sy, .float .f64 A.ss], .agg #[.float .f64 B.sm, .float .f64 B.si, .float .f64 B.sx, .float .f64 B.sy, .float .f64 B.ss], .int .i64 0]) ∧ Bel w w' := by
 unfold onX onY onQ
 cases hs : slB T m n
 ·have hs2 := (sl_rel h g).trans hs
  refine (one_same T a b w oR h.ok g.ok hal hs2).mono fun e w' ⟨he, hb⟩ => ⟨a, b, h, g, he, hb⟩
 ·have hs2 := (sl_rel h g).trans hs
  have hs3 := hs2
  unfold slB at hs3
  rw [Bool.and_eq_true] at hs3
  refine (one_ok T a b w oR h.ok g.ok hal hs3.1 hs3.2).mono fun e w' ⟨q, x, y, u, x2, y2, u2, hq, hx, hy, hu, hx2, hy2, hu2, he, hb⟩ => ?_
  have eq : q = quF T m n := by
   rw [qu_rel h g] at hq
   exact isF_wd hq (nan_ne (fin_nan (sl_fin hs)))
  subst eq
  rw [df_rel h g] at hx hy hu hx2 hy2 hu2
  exact ⟨⟨a.sm, a.si, x, y, u⟩, ⟨b.sm, b.si, x2, y2, u2⟩, pu_rel h hx hy hu, pu_rel g hx2 hy2 hu2, he, hb⟩
theorem to_ids (Q : Nat → RD) (k : Nat) : (toR Q k).ra = (Q k).ra ∧ (toR Q k).rb = (Q k).rb ∧ (toR Q k).ro = (Q k).ro := by unfold toR; split <;> exact ⟨rfl, rfl, rfl⟩
theorem ch_told {Q : Nat → RD} {k : Nat} {n m : Int} (h : chB (Q k) n m = true) : chB (toR Q k) n m = true := by
 unfold toR
 split
 ·unfold chB mayB at h ⊢
  simp only [Bool.and_eq_true] at h ⊢
  obtain ⟨⟨h1, h2, h3, h4, h5, h6⟩, h7⟩ := h
  exact ⟨⟨h1, h2, h3, h4, (sub0 (en_ok _ _).1 (en_ok _ _).2).2, h6⟩, h7⟩
 ·exact h
theorem ch_on {T : RD} {a b : SD} {n m : Int} (h : chB T n m = true) : chB (onR T a b) n m = true := by
 unfold onR onQ
 cases mvB a || mvB b
 ·exact h
 ·cases hs : slB T a b
  ·exact h
  ·unfold chB mayB at h ⊢
   simp only [Bool.and_eq_true, cond_true] at h ⊢
   obtain ⟨⟨h1, h2, h3, h4, h5, h6, h7, h8, h9, h10, h11, h12⟩, h13⟩ := h
   exact ⟨⟨h1, h2, h3, h4, h5, h6, h7, h8, h9, h10, sl_fin hs, h12⟩, h13⟩
theorem ok_told {Q : Nat → RD} {k : Nat} (h : rok (Q k)) : rok (toR Q k) := by
 unfold toR
 split
 ·obtain ⟨h2, h3, h4, h5, h6, h7, h8, h9, h10, h11, h13⟩ := h
  exact ⟨h2, h3, h4, h5, h6, h7, h8, oF_ok _ _ _, (en_ok _ _).1, h11, h13⟩
 ·exact h
theorem ok_on {T : RD} {a b : SD} (h : rok T) : rok (onR T a b) ∧ rok (onQ T a b) := by
 have hq : rok (onQ T a b) := by
  unfold onQ
  cases slB T a b
  ·exact h
  ·obtain ⟨h2, h3, h4, h5, h6, h7, h8, h9, h10, h11, h13⟩ := h
   exact ⟨h2, h3, h4, h5, h6, h7, h8, h9, h10, cl_ok (oF_ok _ _ _) h9 h10, h13⟩
 refine ⟨?_, hq⟩
 unfold onR
 cases mvB a || mvB b
 ·exact h
 ·exact hq
theorem on_st (T : RD) (a b : SD) : stB (onA T a b) = stB a ∧ stB (onB T a b) = stB b := by
 unfold onA onB onX onY
 cases mvB a || mvB b <;> cases slB T a b <;> exact ⟨rfl, rfl⟩
theorem rnd_ch {Q : Nat → RD} {M : Nat → SD} {n m : Int} {rn : Nat} (h : ∀ i, i < rn → chB (Q i) n m = true) : ∀ k, k ≤ rn → (∀ i, i < rn → chB ((rndM Q M k).1 i) n m = true) ∧ ∀ i, stB ((rndM Q M k).2 i) = stB (M i)
 | 0, _ => ⟨h, fun _ => rfl⟩
 | k + 1, hk => by
  obtain ⟨h1, h2⟩ := rnd_ch (M := M) h k (by omega)
  refine ⟨fun i hi => ?_, fun i => ?_⟩
  ·show chB (setF _ _ _ i) n m = true
   unfold setF
   split
   ·exact ch_on (ch_told (h1 k (by omega)))
   ·exact h1 i hi
  ·show stB (setF (setF _ _ _) _ _ i) = _
   unfold setF
   split
   ·subst i; rw [(on_st _ _ _).2, h2]
   ·split
    ·subst i; rw [(on_st _ _ _).1, h2]
    ·exact h2 i
theorem rnd_ok {Q : Nat → RD} {M : Nat → SD} {rn : Nat} (h : ∀ i, i < rn → rok (Q i)) : ∀ k, k ≤ rn → ∀ i, i < rn → rok ((rndM Q M k).1 i)
 | 0, _ => h
 | k + 1, hk => fun i hi => by
  have h1 := rnd_ok (M := M) h k (by omega)
  show rok (setF _ _ _ i)
  unfold setF
  split
  ·exact (ok_on (ok_told (h1 k (by omega)))).1
  ·exact h1 i hi
theorem setF_self {α : Type} (f : Nat → α) (i : Nat) : setF f i (f i) = f := by
 funext j
 unfold setF
 split
 ·subst j; rfl
 ·rfl
/-- rows that lie in a block of their own -/
structure RwM (w : World) (g n : Nat) (Q : Nat → RD) : Prop where
 thr : w.there g 0 (n * 14)
 at_ : Rws w g 0 n Q
theorem rws_lt {w : World} {b n : Nat} {Q : Nat → RD} (h : Rws w b 0 n Q) {i : Nat} (hi : i < n) : b < w.heap.size := World.block_lt_of_cell? w _ (h i hi 0 _ rfl)
theorem RwM.bel {w w' : World} {g n : Nat} {Q : Nat → RD} (h : RwM w g n Q) (b : Bel w w') : RwM w' g n Q := ⟨bel_there h.thr b, h.at_.bel b⟩
theorem RwM.away {w w' : World} {g n : Nat} {Q : Nat → RD} {F : List Nat} (h : RwM w g n Q) (b : Fx F w w') (hg : g ∉ F) : RwM w' g n Q := ⟨b.thr _ _ _ h.thr, fun i hi => b.rng hg (h.at_ i hi)⟩
theorem rws_one {W5 W : World} {g n k : Nat} {Q : Nat → RD} {T : RD} (h : Rws W5 g 0 n Q) (hT : W.rangeAt g (k * 14) (rc T)) (hout : ∀ q, ¬ (k * 14 ≤ q ∧ q < k * 14 + 14) → W.cell? ⟨g, q, none⟩ = W5.cell? ⟨g, q, none⟩) : Rws W g 0 n (setF Q k T) := fun i hi => by
 rw [Nat.zero_add]
 by_cases e : i = k
 ·subst e; rw [setF_at]; exact hT
 ·rw [setF_ne _ _ e]
  intro j v hj
  have h14 : j < 14 := (List.getElem?_eq_some_iff.1 hj).1
  have h1 := h i hi j v hj
  rw [Nat.zero_add] at h1
  rw [hout _ (by omega)]
  exact h1
theorem rng_ends {W5 W : World} {g k lo hi : Nat} {R : RD} (h : W5.rangeAt g (k * 14) (rc R)) (h1 : W.rangeAt g (k * 14 + 9) [.float .f64 lo]) (h2 : W.rangeAt g (k * 14 + 10) [.float .f64 hi]) (hout : ∀ q, q ≠ k * 14 + 9 → q ≠ k * 14 + 10 → W.cell? ⟨g, q, none⟩ = W5.cell? ⟨g, q, none⟩) : W.rangeAt g (k * 14) (rc { R with r9 := lo, r10 := hi }) := fun j v hj => by
 have h14 : j < 14 := (List.getElem?_eq_some_iff.1 hj).1
 have q1 := h1 0 _ rfl
 have q2 := h2 0 _ rfl
 rcases (show j = 0 ∨ j = 1 ∨ j = 2 ∨ j = 3 ∨ j = 4 ∨ j = 5 ∨ j = 6 ∨ j = 7 ∨ j = 8 ∨ j = 9 ∨ j = 10 ∨ j = 11 ∨ j = 12 ∨ j = 13 by omega) with rfl | rfl | rfl | rfl | rfl | rfl | rfl | rfl | rfl | rfl | rfl | rfl | rfl | rfl
 all_goals first
  | (cases hj; exact q1)
  | (cases hj; exact q2)
  | (rw [hout _ (by omega) (by omega)]; exact h _ v hj)

end Go.Proofs.Ytfohggiehbplkaa
