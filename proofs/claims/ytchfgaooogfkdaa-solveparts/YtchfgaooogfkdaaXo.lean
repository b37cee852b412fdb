/-
  What each function of package poly answers, and what the reference of its chapter answers: one contract a function, for every float: the answer stands in the relation of its formula to what was given; of the memory that was there nothing has turned.
-/
import Derived.Test.YtchfgaooogfkdaaVec
import Derived.Test.YtchfgaooogfkdaaXn
import Derived.Below
import Derived.OwnWalk
import Derived.Laws.AppendOwn
import Derived.Lib.SliceRun
import Derived.Laws.MakeOwn
import Derived.WalkKit
import Derived.WalkLawsBesides
import Derived.WalkSpells
import Derived.ProofKit
import Derived.OpenShut
import Derived.Deep.RegionHeld3
namespace Go.Proofs.Ytchfgaooogfkdaa
open Go.ChangeShapes Go.WideShapes Go.ChangeAt Go.RowKit
set_option linter.unusedVariables false
set_option linter.unusedSimpArgs false


/-- where a number stands in a list, or -1 -/
def posI (L : List Nat) (t : Int) : Int := match L.findIdx? (fun n : Nat => decide ((n : Int) = t)) with | some r => r | none => -1
def LN (L : List Nat) (i : Nat) : Nat := L.getD i 0
def onlyR (Q : Nat → RD) (L : List Nat) (i : Nat) : RD := { Q (LN L i) with ro := posI L (Q (LN L i)).ro }
theorem pick_mem {p : Nat → Bool} : ∀ {k i : Nat}, i ∈ pickN p k → i < k
  | 0, i, h => by cases h
  | k + 1, i, h => by
    unfold pickN at h
    cases hp : p k
    · rw [hp] at h; exact Nat.lt_succ_of_lt (pick_mem h)
    · rw [hp] at h
      simp only [cond_true, List.mem_append, List.mem_singleton] at h
      rcases h with h | h
      · exact Nat.lt_succ_of_lt (pick_mem h)
      · omega
theorem pick_up (p : Nat → Bool) : ∀ k, (pickN p k).Pairwise (· < ·)
  | 0 => List.Pairwise.nil
  | k + 1 => by
    have h := pick_up p k
    unfold pickN
    cases p k
    · exact h
    · refine List.pairwise_append.2 ⟨h, List.pairwise_singleton _ _, fun a ha b hb => ?_⟩
      simp only [List.mem_singleton] at hb
      subst hb
      exact pick_mem ha
theorem LN_get {L : List Nat} {i : Nat} (h : i < L.length) : LN L i = L[i] := by unfold LN; simp [h]
theorem pos_yes {L : List Nat} (hL : L.Pairwise (· < ·)) {r : Nat} {t : Int} (hr : r < L.length) (he : (LN L r : Int) = t) : posI L t = r := by
  have h : L.findIdx? (fun n : Nat => decide ((n : Int) = t)) = some r := by
    rw [List.findIdx?_eq_some_iff_getElem]
    refine ⟨hr, by rw [← LN_get hr]; exact decide_eq_true he, fun j hj => ?_⟩
    have h1 := List.pairwise_iff_getElem.1 hL j r (by omega) hr hj
    have h2 := LN_get hr
    simp only [decide_eq_true_eq]
    omega
  unfold posI
  rw [h]
theorem pos_no {L : List Nat} {t : Int} (h : ∀ i, i < L.length → (LN L i : Int) ≠ t) : posI L t = -1 := by
  have h1 : L.findIdx? (fun n : Nat => decide ((n : Int) = t)) = none := by
    rw [List.findIdx?_eq_none_iff]
    intro x hx
    obtain ⟨i, hi, rfl⟩ := List.getElem_of_mem hx
    have := h i hi
    rw [LN_get hi] at this
    simpa using this
  unfold posI
  rw [h1]
theorem rng_set12 {W : World} {b o : Nat} {R : RD} {t : Int} (h : W.rangeAt b o (rc R)) : (W.setCell ⟨b, o + 12, none⟩ (.int .i64 t)).rangeAt b o (rc { R with ro := t }) := fun j v hj => by
  have h14 : j < 14 := (List.getElem?_eq_some_iff.1 hj).1
  by_cases e : j = 12
  · subst e
    cases hj
    exact World.cell?_setCell_same _ _ _ (h 12 _ rfl)
  · rw [World.cell?_setCell_other _ _ _ _ (by intro q; injection q with _ q2; omega)]
    refine h j v ?_
    rcases (show j = 0 ∨ j = 1 ∨ j = 2 ∨ j = 3 ∨ j = 4 ∨ j = 5 ∨ j = 6 ∨ j = 7 ∨ j = 8 ∨ j = 9 ∨ j = 10 ∨ j = 11 ∨ j = 13 by omega) with rfl | rfl | rfl | rfl | rfl | rfl | rfl | rfl | rfl | rfl | rfl | rfl | rfl <;> exact hj
theorem rws_next {W V : World} {g k : Nat} {cs : List Value} {t : Value} {F : Nat → RD} (h : Rws W g 0 k F) (hk : (( W.setCells g (k * 14) cs).setCell ⟨g, k * 14 + 12, none⟩ t).rangeAt g (k * 14) (rc (F k))) (hz : g < V.heap.size) : Rws ((W.setCells g (k * 14) cs).setCell ⟨g, k * 14 + 12, none⟩ t) g 0 (k + 1) F := fun i hi => by
  rw [Nat.zero_add]
  by_cases e : i = k
  · subst e; exact hk
  · intro j v hj
    have h14 : j < 14 := (List.getElem?_eq_some_iff.1 hj).1
    have h1 := h i (by omega) j v hj
    rw [Nat.zero_add] at h1
    rw [World.cell?_setCell_other _ _ _ _ (by intro q; injection q with _ q2; omega), sets_out _ _ _ _ _ (.inl (by omega))]
    exact h1
theorem own_ints {base : Nat} {w : World} {v : Value} {n : Nat} {R : List Value} {Y : Nat → Nat} (h : OwnR 1 base w v n R) (hg : ∀ i, i < n → R[i]? = some (.int .i64 (Y i))) : ∃ sl c g, v = .slice sl n c ∧ (n = 0 ∨ sl = some ⟨g, 0, none⟩) ∧ n ≤ c ∧ Ints w g 0 n (fun i => (Y i : Int)) := by
  rcases h.2 with ⟨rfl, rfl⟩ | ⟨g, c, rfl, h1, h2, h3, h4, _⟩
  · exact ⟨none, 0, 0, rfl, .inl rfl, Nat.le_refl _, fun i hi => by omega⟩
  · exact ⟨some ⟨g, 0, none⟩, c, g, rfl, .inr rfl, h2, fun i hi => h4 i _ (hg i hi)⟩
theorem make_rows (n : Nat) (hn : n ≤ 1048576) (W : World) : (Instr.makeSlice 22 (.int .i64 n) (.int .i64 n)).run Try.prog W = .ok (.slice (some ⟨W.heap.size, 0, none⟩) n n) (W.alloc (.cells (madeCells #[.int .i64 0, .int .i64 0, .float .f64 0, .float .f64 0, .float .f64 0, .float .f64 0, .float .f64 0, .float .f64 0, .float .f64 0, .float .f64 0, .float .f64 0, .float .f64 0, .int .i64 0, .float .f64 0] (n * 14)) 56)) := by
  have h := run_make (P := Try.prog) W 22 56 Try.t56 (.agg #[.int .i64 0, .int .i64 0, .float .f64 0, .float .f64 0, .float .f64 0, .float .f64 0, .float .f64 0, .float .f64 0, .float .f64 0, .float .f64 0, .float .f64 0, .float .f64 0, .int .i64 0, .float .f64 0]) Try.underlying22 (by kernel_rfl) (by kernel_rfl) .i64 .i64 n n (by omega) (by omega) (by show ((112 : Nat) : Int) * n ≤ _; omega) (by omega)
  exact h
theorem made_there (W : World) (z : Array Value) (N : Nat) (t : TypeId) : (W.alloc (.cells (madeCells z N) t)).there W.heap.size 0 N := fun j hj => by
  have h := there_new W (madeCells z N).toList t
  rw [Array.toArray_toList] at h
  exact h j (by rw [Array.length_toList, size_madeCells]; exact hj)
set_option maxRecDepth 100000 in
set_option maxHeartbeats 4000000 in
theorem only_many (rb ro rn rc_ : Nat) (rs : Option Addr) (Q : Nat → RD) (ib io inn ic_ : Nat) (is_ : Option Addr) (w : World) (h : 1048576 < rn ∨ 1024 < inn) : Calls Try.prog 28 #[.slice rs rn rc_, .slice is_ inn ic_] w fun e w' => e = .returned (.tuple #[.slice none 0 0, .slice none 0 0, .int .i64 4]) ∧ Bel w w' := by
  rcases (show (1048576 : Int) < rn ∨ (¬ (1048576 : Int) < rn ∧ (1024 : Int) < inn) by omega) with h1 | ⟨h1, h2⟩
  all_goals
    go_enter Try.func28, Try.ntmps28
    repeat (first | go_values | go_skip | go_guarded | go_step | go_upon | go_back | dsimp only)
    refine bodyPost_ret (v := .tuple #[.slice none 0 0, .slice none 0 0, .int .i64 4]) (by kernel_rfl) rfl ?_
    exact ⟨rfl, bl_refl _⟩
set_option maxRecDepth 100000 in
set_option maxHeartbeats 4000000 in
theorem only_bad (rb ro rn rc_ : Nat) (rs : Option Addr) (Q : Nat → RD) (ib io inn ic_ : Nat) (is_ : Option Addr) (w : World) (hrs : rn = 0 ∨ rs = some ⟨rb, ro, none⟩) (hrc : rn ≤ rc_) (hrm : rc_ ≤ maxLen) (hr : Rws w rb ro rn Q) (or_ : ∀ i, i < rn → rok (Q i)) (hl1 : rn ≤ 1048576) (hl2 : inn ≤ 1024) (hcr : crB Q rn 1024 rn = false) : Calls Try.prog 28 #[.slice rs rn rc_, .slice is_ inn ic_] w fun e w' => e = .returned (.tuple #[.slice none 0 0, .slice none 0 0, .int .i64 200]) ∧ Bel w w' := by
  have h1 : ¬ (1048576 : Int) < rn := by omega
  have h2 : ¬ (1024 : Int) < inn := by omega
  go_enter Try.func28, Try.ntmps28
  repeat (first | (go_at_call 62; (with_reducible refine (checkRows_w rb ro rn rc_ rs Q 1024 _ hrs hrc hrm hr or_).mono ?_); rintro e w1 ⟨rfl, hb⟩; rw [hcr]; simp only [cond_false]) | go_values | go_skip | go_guarded | go_step | go_upon | go_back | dsimp only)
  refine bodyPost_ret (v := .tuple #[.slice none 0 0, .slice none 0 0, .int .i64 200]) (by kernel_rfl) rfl ?_
  exact ⟨rfl, hb⟩

set_option maxRecDepth 100000 in
set_option maxHeartbeats 8000000 in
theorem only_ok (rb ro rn rc_ : Nat) (rs : Option Addr) (Q : Nat → RD) (ib io inn ic_ : Nat) (is_ : Option Addr) (X : Nat → Int) (w : World) (hrs : rn = 0 ∨ rs = some ⟨rb, ro, none⟩) (hrc : rn ≤ rc_) (hrm : rc_ ≤ maxLen) (hr : Rws w rb ro rn Q) (or_ : ∀ i, i < rn → rok (Q i)) (his : inn = 0 ∨ is_ = some ⟨ib, io, none⟩) (hic : inn ≤ ic_) (him : ic_ ≤ maxLen) (hi_ : Ints w ib io inn X) (hl1 : rn ≤ 1048576) (hl2 : inn ≤ 1024) (hcr : crB Q rn 1024 rn = true) : Calls Try.prog 28 #[.slice rs rn rc_, .slice is_ inn ic_] w fun e w' => ∃ g m v2, m = (pickN (ofP Q X inn) rn).length ∧ w.heap.size ≤ g ∧ Rws w' g 0 m (onlyR Q (pickN (ofP Q X inn) rn)) ∧ w'.there g 0 (m * 14) ∧ OwnR 1 w.heap.size w' v2 m (intsV (pickN (ofP Q X inn) rn)) ∧ e = .returned (.tuple #[.slice (some ⟨g, 0, none⟩) m m, v2, .int .i64 0]) ∧ Bel w w' := by
  have hch := crB_all hcr
  have h1 : ¬ (1048576 : Int) < rn := by omega
  have h2 : ¬ (1024 : Int) < inn := by omega
  have hpl := pick_le (ofP Q X inn) rn
  have hpu := pick_up (ofP Q X inn) rn
  have hpm : ∀ i, i < (pickN (ofP Q X inn) rn).length → LN (pickN (ofP Q X inn) rn) i < rn := fun i hi => by rw [LN_get hi]; exact pick_mem (List.getElem_mem hi)
  have hgi : ∀ i, i < (pickN (ofP Q X inn) rn).length → (intsV (pickN (ofP Q X inn) rn))[i]? = some (.int .i64 (LN (pickN (ofP Q X inn) rn) i)) := fun i hi => by unfold intsV; rw [List.getElem?_map, List.getElem?_eq_getElem hi, LN_get hi]; rfl
  obtain ⟨L, eL⟩ : ∃ L, pickN (ofP Q X inn) rn = L := ⟨_, rfl⟩
  obtain ⟨m, em⟩ : ∃ m, L.length = m := ⟨_, rfl⟩
  rw [eL] at hpl hpu hpm hgi
  rw [em] at hpl hpm hgi
  have hmk := fun W => make_rows m (by omega) W
  unfold maxLen at hrm
  go_enter Try.func28, Try.ntmps28
  repeat (first | (go_at_call 62; (with_reducible refine (checkRows_w rb ro rn rc_ rs Q 1024 _ hrs hrc (by unfold maxLen; omega) hr or_).mono ?_); rintro e w1 ⟨rfl, hb⟩; rw [hcr]; simp only [cond_true]) | (go_at_call 63; (with_reducible refine (of_w rb ro rn rc_ rs Q ib io inn ic_ is_ X _ hrs hrc (by unfold maxLen; omega) (hr.bel hb) or_ his hic him (hi_.bel hb) hl1 hl2 hch).mono ?_); rintro e w3 ⟨v2, hO, rfl, hb3⟩; rw [eL, em] at hO; obtain ⟨sl, c2, g2, rfl, hsl, hc2, hI⟩ := own_ints hO hgi) | go_values | go_skip | go_guarded | go_step | go_upon | go_back | dsimp only)
  have hup : ∀ a b, a < b → b < m → ((LN L a : Nat) : Int) < ((LN L b : Nat) : Int) := fun a b hab hb => by
    rw [LN_get (by omega), LN_get (by omega)]
    have := List.pairwise_iff_getElem.1 hpu a b (by omega) (by omega) hab
    omega
  have B3 := bl_trans hb hb3
  have hz4 : w3.heap.size < (w3.alloc (.cells (madeCells #[.int .i64 0, .int .i64 0, .float .f64 0, .float .f64 0, .float .f64 0, .float .f64 0, .float .f64 0, .float .f64 0, .float .f64 0, .float .f64 0, .float .f64 0, .float .f64 0, .int .i64 0, .float .f64 0] (m * 14)) 56)).heap.size := by rw [World.size_alloc]; omega
  go_loopw [35] (fun i wr => ∃ k : Nat, k ≤ m ∧ i = .int .i64 k ∧ Bel w3 wr ∧ w3.heap.size < wr.heap.size ∧ wr.there (w3.heap.size) 0 (m * 14) ∧ Rws wr (w3.heap.size) 0 k (onlyR Q L)) (fun i _ => m - (intOf i).toNat)
  case atStart => exact ⟨0, by omega, rfl, bl_alloc (bl_refl _) _ _, hz4, made_there _ _ _ _, fun i hi => by omega⟩
  case round =>
    obtain ⟨k, hk, rfl, hB, hz, hth, hRw⟩ := hrel
    clear hmk
    by_cases hlt : k < m
    · have e9 : rs = some ⟨rb, ro, none⟩ := by have := hpm k hlt; rcases hrs with h | h; omega; exact h
      subst e9
      have e8 : sl = some ⟨g2, 0, none⟩ := by rcases hsl with h | h; omega; exact h
      subst e8
      have hkI : (k : Int) < (m : Int) := by omega
      have hnr := hpm k hlt
      have hnI : ((LN L k : Nat) : Int) < (rn : Int) := by omega
      have x0 : wr.cell? ⟨g2, k, none⟩ = some (.int .i64 ((LN L k : Nat) : Int)) := by have h := (hI.bel hB) k hlt; rwa [Nat.zero_add] at h
      have hld : wr.rangeAt rb (ro + LN L k * 14) [.int .i64 (Q (LN L k)).ra, .int .i64 (Q (LN L k)).rb, .float .f64 (Q (LN L k)).r2, .float .f64 (Q (LN L k)).r3, .float .f64 (Q (LN L k)).r4, .float .f64 (Q (LN L k)).r5, .float .f64 (Q (LN L k)).r6, .float .f64 (Q (LN L k)).r7, .float .f64 (Q (LN L k)).r8, .float .f64 (Q (LN L k)).r9, .float .f64 (Q (LN L k)).r10, .float .f64 (Q (LN L k)).r11, .int .i64 (Q (LN L k)).ro, .float .f64 (Q (LN L k)).r13] := ((hr.bel B3).bel hB) _ hnr
      have hts : wr.there (w3.heap.size) (k * 14) 14 := there_sub hth (by omega)
      have B5 : Bel w3 (wr.setCells (w3.heap.size) (k * 14) [.int .i64 (Q (LN L k)).ra, .int .i64 (Q (LN L k)).rb, .float .f64 (Q (LN L k)).r2, .float .f64 (Q (LN L k)).r3, .float .f64 (Q (LN L k)).r4, .float .f64 (Q (LN L k)).r5, .float .f64 (Q (LN L k)).r6, .float .f64 (Q (LN L k)).r7, .float .f64 (Q (LN L k)).r8, .float .f64 (Q (LN L k)).r9, .float .f64 (Q (LN L k)).r10, .float .f64 (Q (LN L k)).r11, .int .i64 (Q (LN L k)).ro, .float .f64 (Q (LN L k)).r13]) := bel_setsJ _ _ hB (Nat.le_refl _)
      have hr5 : (wr.setCells (w3.heap.size) (k * 14) [.int .i64 (Q (LN L k)).ra, .int .i64 (Q (LN L k)).rb, .float .f64 (Q (LN L k)).r2, .float .f64 (Q (LN L k)).r3, .float .f64 (Q (LN L k)).r4, .float .f64 (Q (LN L k)).r5, .float .f64 (Q (LN L k)).r6, .float .f64 (Q (LN L k)).r7, .float .f64 (Q (LN L k)).r8, .float .f64 (Q (LN L k)).r9, .float .f64 (Q (LN L k)).r10, .float .f64 (Q (LN L k)).r11, .int .i64 (Q (LN L k)).ro, .float .f64 (Q (LN L k)).r13]).rangeAt (w3.heap.size) (k * 14) [.int .i64 (Q (LN L k)).ra, .int .i64 (Q (LN L k)).rb, .float .f64 (Q (LN L k)).r2, .float .f64 (Q (LN L k)).r3, .float .f64 (Q (LN L k)).r4, .float .f64 (Q (LN L k)).r5, .float .f64 (Q (LN L k)).r6, .float .f64 (Q (LN L k)).r7, .float .f64 (Q (LN L k)).r8, .float .f64 (Q (LN L k)).r9, .float .f64 (Q (LN L k)).r10, .float .f64 (Q (LN L k)).r11, .int .i64 (Q (LN L k)).ro, .float .f64 (Q (LN L k)).r13] := World.rangeAt_setCells_same _ _ _ _ hts
      have kOf : (wr.setCells (w3.heap.size) (k * 14) [.int .i64 (Q (LN L k)).ra, .int .i64 (Q (LN L k)).rb, .float .f64 (Q (LN L k)).r2, .float .f64 (Q (LN L k)).r3, .float .f64 (Q (LN L k)).r4, .float .f64 (Q (LN L k)).r5, .float .f64 (Q (LN L k)).r6, .float .f64 (Q (LN L k)).r7, .float .f64 (Q (LN L k)).r8, .float .f64 (Q (LN L k)).r9, .float .f64 (Q (LN L k)).r10, .float .f64 (Q (LN L k)).r11, .int .i64 (Q (LN L k)).ro, .float .f64 (Q (LN L k)).r13]).cell? ⟨rb, ro + LN L k * 14 + 12, none⟩ = some (.int .i64 (Q (LN L k)).ro) := ((hr.bel B3).bel B5) _ hnr 12 _ rfl
      have kst : (wr.setCells (w3.heap.size) (k * 14) [.int .i64 (Q (LN L k)).ra, .int .i64 (Q (LN L k)).rb, .float .f64 (Q (LN L k)).r2, .float .f64 (Q (LN L k)).r3, .float .f64 (Q (LN L k)).r4, .float .f64 (Q (LN L k)).r5, .float .f64 (Q (LN L k)).r6, .float .f64 (Q (LN L k)).r7, .float .f64 (Q (LN L k)).r8, .float .f64 (Q (LN L k)).r9, .float .f64 (Q (LN L k)).r10, .float .f64 (Q (LN L k)).r11, .int .i64 (Q (LN L k)).ro, .float .f64 (Q (LN L k)).r13]).cell? ⟨w3.heap.size, k * 14 + 12, none⟩ = some (.int .i64 (Q (LN L k)).ro) := hr5 12 _ rfl
      have hth5 : (wr.setCells (w3.heap.size) (k * 14) [.int .i64 (Q (LN L k)).ra, .int .i64 (Q (LN L k)).rb, .float .f64 (Q (LN L k)).r2, .float .f64 (Q (LN L k)).r3, .float .f64 (Q (LN L k)).r4, .float .f64 (Q (LN L k)).r5, .float .f64 (Q (LN L k)).r6, .float .f64 (Q (LN L k)).r7, .float .f64 (Q (LN L k)).r8, .float .f64 (Q (LN L k)).r9, .float .f64 (Q (LN L k)).r10, .float .f64 (Q (LN L k)).r11, .int .i64 (Q (LN L k)).ro, .float .f64 (Q (LN L k)).r13]).there (w3.heap.size) 0 (m * 14) := World.there_setCells hth _ _ _
      have fst5 : (wr.setCells (w3.heap.size) (k * 14) [.int .i64 (Q (LN L k)).ra, .int .i64 (Q (LN L k)).rb, .float .f64 (Q (LN L k)).r2, .float .f64 (Q (LN L k)).r3, .float .f64 (Q (LN L k)).r4, .float .f64 (Q (LN L k)).r5, .float .f64 (Q (LN L k)).r6, .float .f64 (Q (LN L k)).r7, .float .f64 (Q (LN L k)).r8, .float .f64 (Q (LN L k)).r9, .float .f64 (Q (LN L k)).r10, .float .f64 (Q (LN L k)).r11, .int .i64 (Q (LN L k)).ro, .float .f64 (Q (LN L k)).r13]).frozen? ⟨w3.heap.size, k * 14 + 12, none⟩ = false := by have h := (hth5 (k * 14 + 12) (by omega)).2; rwa [Nat.zero_add] at h
      repeat (first | ((with_reducible show Oper.wp _ { dst := _, op := Op.load 56 _, type := _, pos := _, after := _, guard := _ } _ _ _ _); refine wp_load_mid (P := Try.prog) 56 _ rfl _ _ rfl [.int .i64 (Q (LN L k)).ra, .int .i64 (Q (LN L k)).rb, .float .f64 (Q (LN L k)).r2, .float .f64 (Q (LN L k)).r3, .float .f64 (Q (LN L k)).r4, .float .f64 (Q (LN L k)).r5, .float .f64 (Q (LN L k)).r6, .float .f64 (Q (LN L k)).r7, .float .f64 (Q (LN L k)).r8, .float .f64 (Q (LN L k)).r9, .float .f64 (Q (LN L k)).r10, .float .f64 (Q (LN L k)).r11, .int .i64 (Q (LN L k)).ro, .float .f64 (Q (LN L k)).r13] _ hld Try.underlying56 rfl (by kernel_rfl) ?_; simp only [go_sem]) | ((with_reducible show Oper.wp _ { dst := _, op := Op.store 56 _ _, type := _, pos := _, after := _, guard := _ } _ _ _ _); refine wp_store_mid (P := Try.prog) 56 _ _ rfl (w3.heap.size) (k * 14) #[.int .i64 (Q (LN L k)).ra, .int .i64 (Q (LN L k)).rb, .float .f64 (Q (LN L k)).r2, .float .f64 (Q (LN L k)).r3, .float .f64 (Q (LN L k)).r4, .float .f64 (Q (LN L k)).r5, .float .f64 (Q (LN L k)).r6, .float .f64 (Q (LN L k)).r7, .float .f64 (Q (LN L k)).r8, .float .f64 (Q (LN L k)).r9, .float .f64 (Q (LN L k)).r10, .float .f64 (Q (LN L k)).r11, .int .i64 (Q (LN L k)).ro, .float .f64 (Q (LN L k)).r13] rfl rfl hts (by kernel_rfl) (by kernel_rfl) ?_; simp only [go_sem]) | (go_at_call 64; (with_reducible refine (bsearch_w g2 m c2 _ (fun i => ((LN L i : Nat) : Int)) _ _ hsl hc2 (by omega) (hI.bel B5) hup).mono ?_); rintro e w6 ⟨r, f, hf1, hf2, rfl, hw6⟩; rw [hw6]; cases f) | go_values | go_skip | go_guarded | go_step | go_upon | go_back | dsimp only)
      all_goals
        repeat (first | go_values | go_skip | go_guarded | go_step | go_upon | go_back | dsimp only)
        refine ⟨⟨k + 1, by omega, by go_num, bel_set1 B5 (Nat.le_refl _), by rw [size_set, size_setsJ]; exact hz, there_set hth5, ?_⟩, by simp [intOf]; omega⟩
      · have ep : posI L (Q (LN L k)).ro = -1 := pos_no (fun i hi => hf2 rfl i (by omega))
        exact rws_next hRw (by have h := rng_set12 (t := -1) hr5; unfold onlyR; rw [ep]; exact h) hz
      · obtain ⟨hf3, hf4⟩ := hf1 rfl
        have ep : posI L (Q (LN L k)).ro = (r : Int) := pos_yes hpu (by omega) hf4
        exact rws_next hRw (by have h := rng_set12 (t := (r : Int)) hr5; unfold onlyR; rw [ep]; exact h) hz
    · have hkn : k = m := by omega
      subst hkn
      repeat (first | go_values | go_skip | go_guarded | go_step | go_upon | go_back | dsimp only)
      refine bodyPost_ret (v := .tuple #[.slice (some ⟨w3.heap.size, 0, none⟩) k k, .slice sl k c2, .int .i64 0]) (by kernel_rfl) rfl ?_
      rw [eL]
      exact ⟨w3.heap.size, k, _, em.symm, B3.size, hRw, hth, (hO.base9 hb.size).bel hB, rfl, bl_trans B3 hB⟩

end Go.Proofs.Ytchfgaooogfkdaa
