/-
  Plain facts that go together.
-/
import Derived.Test.YtfohggiehbplkaaVec
import Derived.Test.YtfohggiehbplkaaXm
import Derived.Below
import Derived.OwnWalk
import Derived.Laws.AppendOwn
import Derived.Lib.SliceRun
import Derived.Laws.MakeOwn
import Derived.WalkKit
import Derived.WalkLawsBesides
import Derived.WalkSpells
import Derived.ProofKit
import Derived.OpenShut
import Derived.Deep.RegionHeld3
namespace Go.Proofs.Ytfohggiehbplkaa
open Go.ChangeShapes Go.WideShapes Go.ChangeAt Go.RowKit
set_option linter.unusedSimpArgs false
set_option linter.unusedVariables false
theorem nan1_i (a : Int) (w : World) : Calls Try.prog 144 #[.int .i64 a] w fun e w' => e = .returned (.bool false) ∧ w' = w := by
 have h : (a == a) = true := by simp
 go_enter Try.func144, Try.ntmps144
 repeat (first | go_values | go_skip | go_guarded | go_step | go_upon | go_back | dsimp only)
 go_ret
 exact ⟨by simp, rfl⟩
theorem nan2_i (a : Int) (w : World) : Calls Try.prog 152 #[.int .i64 a] w fun e w' => e = .returned (.bool false) ∧ w' = w := by
 have h : (a == a) = true := by simp
 go_enter Try.func152, Try.ntmps152
 repeat (first | go_values | go_skip | go_guarded | go_step | go_upon | go_back | dsimp only)
 go_ret
 exact ⟨by simp, rfl⟩
set_option maxRecDepth 100000 in
set_option maxHeartbeats 4000000 in
theorem less_i (a b : Int) (w : World) : Calls Try.prog 143 #[.int .i64 a, .int .i64 b] w fun e w' => e = .returned (.bool (decide (a < b))) ∧ w' = w := by
 go_enter Try.func143, Try.ntmps143
 repeat (first | (go_at_call 152; (with_reducible refine (nan2_i _ _).mono ?_); rintro e w' ⟨rfl, rfl⟩) | go_values | go_skip | go_guarded | go_step | go_upon | go_back | dsimp only)
 go_ret
 exact ⟨rfl, rfl⟩
set_option maxRecDepth 100000 in
set_option maxHeartbeats 4000000 in
theorem bsearch_w (b n c_ : Nat) (sl : Option Addr) (Y : Nat → Int) (t : Int) (w : World) (hsl : n = 0 ∨ sl = some ⟨b, 0, none⟩) (hc : n ≤ c_) (hm : n ≤ 1048576) (hY : Ints w b 0 n Y) (hup : ∀ i j, i < j → j < n → Y i < Y j) : Calls Try.prog 112 #[.slice sl n c_, .int .i64 t] w fun e w' => ∃ (r : Nat) (f : Bool), (f = true → r < n ∧ Y r = t) ∧ (f = false → ∀ i, i < n → Y i ≠ t) ∧ e = .returned (.tuple #[.int .i64 r, .bool f]) ∧ w' = w := by
 go_enter Try.func112, Try.ntmps112
 repeat (first | go_values | go_skip | go_guarded | go_step | go_upon | go_back | dsimp only)
 go_loopw [7, 8] (fun i j wr => ∃ lo hi : Nat, lo ≤ hi ∧ hi ≤ n ∧ i = .int .i64 lo ∧ j = .int .i64 hi ∧ wr = w ∧ (∀ q, q < lo → Y q < t) ∧ ∀ q, hi ≤ q → q < n → t ≤ Y q) (fun i j _ => (intOf j).toNat - (intOf i).toNat)
 case atStart => exact ⟨0, n, by omega, by omega, rfl, rfl, rfl, fun q hq => by omega, fun q h1 h2 => by omega⟩
 case round =>
  obtain ⟨lo, hi, h1, h2, rfl, rfl, rfl, h3, h4⟩ := hrel
  by_cases hlt : lo < hi
  ·have hkI : (lo : Int) < (hi : Int) := by omega
   have e9 : sl = some ⟨b, 0, none⟩ := by rcases hsl with h | h; omega; exact h
   subst e9
   have kx : wr.cell? ⟨b, (lo + hi) / 2, none⟩ = some (.int .i64 (Y ((lo + hi) / 2))) := by have h := hY ((lo + hi) / 2) (by omega); rwa [Nat.zero_add] at h
   have em : ((((lo + hi) / 2 : Nat) : Int)) = ((lo : Int) + hi) / 2 := by omega
   by_cases hd0 : Y ((lo + hi) / 2) < t
   ·have hd : decide (Y ((lo + hi) / 2) < t) = true := decide_eq_true hd0
    repeat (first | (go_at_call 143; (with_reducible refine (less_i _ _ _).mono ?_); rintro e w' ⟨rfl, rfl⟩; rw [hd]) | go_values | go_skip | go_guarded | go_step | go_upon | go_back | dsimp only)
    refine ⟨⟨(lo + hi) / 2 + 1, hi, by omega, h2, (by first | rfl | go_num), (by first | rfl | trivial), (by first | rfl | trivial), fun q hq => ?_, h4⟩, by simp [intOf]; omega⟩
    rcases Nat.lt_or_ge q ((lo + hi) / 2) with h | h
    ·exact Int.lt_trans (hup q _ h (by omega)) hd0
    ·have e : q = (lo + hi) / 2 := by omega
     subst e; exact hd0
   ·have hd : decide (Y ((lo + hi) / 2) < t) = false := decide_eq_false hd0
    repeat (first | (go_at_call 143; (with_reducible refine (less_i _ _ _).mono ?_); rintro e w' ⟨rfl, rfl⟩; rw [hd]) | go_values | go_skip | go_guarded | go_step | go_upon | go_back | dsimp only)
    refine ⟨⟨lo, (lo + hi) / 2, by omega, by omega, (by first | rfl | trivial), (by first | rfl | go_num), (by first | rfl | trivial), h3, fun q h5 h6 => ?_⟩, by simp [intOf]; omega⟩
    rcases Nat.lt_or_ge ((lo + hi) / 2) q with h | h
    ·have := hup _ q h h6
     omega
    ·have e : q = (lo + hi) / 2 := by omega
     subst e; omega
  ·have hlh : hi = lo := by omega
   subst hlh
   have hkI : ¬ (hi : Int) < (hi : Int) := by omega
   by_cases hn : hi < n
   ·have hnI : (hi : Int) < (n : Int) := by omega
    have e9 : sl = some ⟨b, 0, none⟩ := by rcases hsl with h | h; omega; exact h
    subst e9
    have kx : wr.cell? ⟨b, hi, none⟩ = some (.int .i64 (Y hi)) := by have h := hY hi hn; rwa [Nat.zero_add] at h
    by_cases he : Y hi = t
    ·have he1 : (Y hi == t) = true := by simp [he]
     repeat (first | go_values | go_skip | go_guarded | go_step | go_upon | go_back | dsimp only)
     refine bodyPost_ret (v := .tuple #[.int .i64 hi, .bool true]) (by kernel_rfl) rfl ?_
     exact ⟨hi, true, fun _ => ⟨hn, he⟩, fun h => (by cases h), rfl, rfl⟩
    ·have he1 : (Y hi == t) = false := by simp [he]
     repeat (first | (go_at_call 144; (with_reducible refine (nan1_i _ _).mono ?_); rintro e w' ⟨rfl, rfl⟩) | go_values | go_skip | go_guarded | go_step | go_upon | go_back | dsimp only)
     refine bodyPost_ret (v := .tuple #[.int .i64 hi, .bool false]) (by kernel_rfl) rfl ?_
     refine ⟨hi, false, fun h => (by cases h), fun _ i hi9 => ?_, rfl, rfl⟩
     rcases Nat.lt_or_ge i hi with h | h
     ·have := h3 i h; omega
     ·rcases Nat.eq_or_lt_of_le h with h | h
      ·subst h; exact he
      ·have h7 := hup hi i h hi9
       have h8 := h4 hi (Nat.le_refl _) hn
       omega
   ·have hnI : ¬ (hi : Int) < (n : Int) := by omega
    repeat (first | go_values | go_skip | go_guarded | go_step | go_upon | go_back | dsimp only)
    refine bodyPost_ret (v := .tuple #[.int .i64 hi, .bool false]) (by kernel_rfl) rfl ?_
    refine ⟨hi, false, fun h => (by cases h), fun _ i hi9 => ?_, rfl, rfl⟩
    have := h3 i (by omega)
    omega
/-- where a number stands in a list, or -1 -/
def posI (L : List Nat) (t : Int) : Int := match L.findIdx? (fun n : Nat => decide ((n : Int) = t)) with | some r => r | none => -1
def LN (L : List Nat) (i : Nat) : Nat := L.getD i 0
def onlyR (Q : Nat → RD) (L : List Nat) (i : Nat) : RD := { Q (LN L i) with ro := posI L (Q (LN L i)).ro }
theorem pick_mem {p : Nat → Bool} : ∀ {k i : Nat}, i ∈ pickN p k → i < k
 | 0, i, h => by cases h
 | k + 1, i, h => by
  unfold pickN at h
  cases hp : p k
  ·rw [hp] at h; exact Nat.lt_succ_of_lt (pick_mem h)
  ·rw [hp] at h
   simp only [cond_true, List.mem_append, List.mem_singleton] at h
   rcases h with h | h
   ·exact Nat.lt_succ_of_lt (pick_mem h)
   ·omega
theorem pick_up (p : Nat → Bool) : ∀ k, (pickN p k).Pairwise (· < ·)
 | 0 => List.Pairwise.nil
 | k + 1 => by
  have h := pick_up p k
  unfold pickN
  cases p k
  ·exact h
  ·refine List.pairwise_append.2 ⟨h, List.pairwise_singleton _ _, fun a ha b hb => ?_⟩
   simp only [List.mem_singleton] at hb
   subst hb
   exact pick_mem ha
theorem LN_get {L : List Nat} {i : Nat} (h : i < L.length) : LN L i = L[i] := by unfold LN; simp [h]
theorem pos_yes {L : List Nat} (hL : L.Pairwise (· < ·)) {r : Nat} {t : Int} (hr : r < L.length) (he : (LN L r : Int) = t) : posI L t = r := by
 have h : L.findIdx? (fun n : Nat => decide ((n : Int) = t)) = some r := by
  rw [List.findIdx?_eq_some_iff_getElem]
  refine ⟨hr, by rw [← LN_get hr]; exact decide_eq_true he, fun j hj => ?_⟩
  have h1 := List.pairwise_iff_getElem.1 hL j r (by omega) hr hj
  have h2 := LN_get hr
  simp only [decide_eq_true_eq]
  omega
 unfold posI
 rw [h]
theorem pos_no {L : List Nat} {t : Int} (h : ∀ i, i < L.length → (LN L i : Int) ≠ t) : posI L t = -1 := by
 have h1 : L.findIdx? (fun n : Nat => decide ((n : Int) = t)) = none := by
  rw [List.findIdx?_eq_none_iff]
  intro x hx
  obtain ⟨i, hi, rfl⟩ := List.getElem_of_mem hx
  have := h i hi
  rw [LN_get hi] at this
  simpa using this
 unfold posI
 rw [h1]
theorem rng_set12 {W : World} {b o : Nat} {R : RD} {t : Int} (h : W.rangeAt b o (rc R)) : (W.setCell ⟨b, o + 12, none⟩ (.int .i64 t)).rangeAt b o (rc { R with ro := t }) := fun j v hj => by
 have h14 : j < 14 := (List.getElem?_eq_some_iff.1 hj).1
 by_cases e : j = 12
 ·subst e
  cases hj
  exact World.cell?_setCell_same _ _ _ (h 12 _ rfl)
 ·rw [World.cell?_setCell_other _ _ _ _ (by intro q; injection q with _ q2; omega)]
  refine h j v ?_
  rcases (show j = 0 ∨ j = 1 ∨ j = 2 ∨ j = 3 ∨ j = 4 ∨ j = 5 ∨ j = 6 ∨ j = 7 ∨ j = 8 ∨ j = 9 ∨ j = 10 ∨ j = 11 ∨ j = 13 by omega) with rfl | rfl | rfl | rfl | rfl | rfl | rfl | rfl | rfl | rfl | rfl | rfl | rfl <;> exact hj
theorem rws_next {W V : World} {g k : Nat} {cs : List Value} {t : Value} {F : Nat → RD} (h : Rws W g 0 k F) (hk : (( W.setCells g (k * 14) cs).setCell ⟨g, k * 14 + 12, none⟩ t).rangeAt g (k * 14) (rc (F k))) (hz : g < V.heap.size) : Rws ((W.setCells g (k * 14) cs).setCell ⟨g, k * 14 + 12, none⟩ t) g 0 (k + 1) F := fun i hi => by
 rw [Nat.zero_add]
 by_cases e : i = k
 ·subst e; exact hk
 ·intro j v hj
  have h14 : j < 14 := (List.getElem?_eq_some_iff.1 hj).1
  have h1 := h i (by omega) j v hj
  rw [Nat.zero_add] at h1
  rw [World.cell?_setCell_other _ _ _ _ (by intro q; injection q with _ q2; omega), sets_out _ _ _ _ _ (.inl (by omega))]
  exact h1
theorem own_ints {base : Nat} {w : World} {v : Value} {n : Nat} {R : List Value} {Y : Nat → Nat} (h : OwnR 1 base w v n R) (hg : ∀ i, i < n → R[i]? = some (.int .i64 (Y i))) : ∃ sl c g, v = .slice sl n c ∧ (n = 0 ∨ sl = some ⟨g, 0, none⟩) ∧ n ≤ c ∧ Ints w g 0 n (fun i => (Y i : Int)) := by
 rcases h.2 with ⟨rfl, rfl⟩ | ⟨g, c, rfl, h1, h2, h3, h4, _⟩
 ·exact ⟨none, 0, 0, rfl, .inl rfl, Nat.le_refl _, fun i hi => by omega⟩
 ·exact ⟨some ⟨g, 0, none⟩, c, g, rfl, .inr rfl, h2, fun i hi => h4 i _ (hg i hi)⟩
theorem make_rows (n : Nat) (hn : n ≤ 1048576) (W : World) : (Instr.makeSlice 30 (.int .i64 n) (.int .i64 n)).run Try.prog W = .ok (.slice (some ⟨W.heap.size, 0, none⟩) n n) (W.alloc (.cells (madeCells #[.int .i64 0, .int .i64 0, .float .f64 0, .float .f64 0, .float .f64 0, .float .f64 0, .float .f64 0, .float .f64 0, .float .f64 0, .float .f64 0, .float .f64 0, .float .f64 0, .int .i64 0, .float .f64 0] (n * 14)) 43)) := by
 have h := run_make (P := Try.prog) W 30 43 Try.t43 (.agg #[.int .i64 0, .int .i64 0, .float .f64 0, .float .f64 0, .float .f64 0, .float .f64 0, .float .f64 0, .float .f64 0, .float .f64 0, .float .f64 0, .float .f64 0, .float .f64 0, .int .i64 0, .float .f64 0]) Try.underlying30 (by kernel_rfl) (by kernel_rfl) .i64 .i64 n n (by omega) (by omega) (by show ((112 : Nat) : Int) * n ≤ _; omega) (by omega)
 exact h
theorem made_there (W : World) (z : Array Value) (N : Nat) (t : TypeId) : (W.alloc (.cells (madeCells z N) t)).there W.heap.size 0 N := fun j hj => by
 have h := there_new W (madeCells z N).toList t
 rw [Array.toArray_toList] at h
 exact h j (by rw [Array.length_toList, size_madeCells]; exact hj)
set_option maxRecDepth 100000 in
set_option maxHeartbeats 8000000 in
theorem only_ok (rb ro rn rc_ : Nat) (rs : Option Addr) (Q : Nat → RD) (ib io inn ic_ : Nat) (is_ : Option Addr) (X : Nat → Int) (w : World) (hrs : rn = 0 ∨ rs = some ⟨rb, ro, none⟩) (hrc : rn ≤ rc_) (hrm : rc_ ≤ maxLen) (hr : Rws w rb ro rn Q) (or_ : ∀ i, i < rn → rok (Q i)) (his : inn = 0 ∨ is_ = some ⟨ib, io, none⟩) (hic : inn ≤ ic_) (him : ic_ ≤ maxLen) (hi_ : Ints w ib io inn X) (hl1 : rn ≤ 1048576) (hl2 : inn ≤ 1024) (hcr : crB Q rn 1024 rn = true) : Calls Try.prog 70 #[.slice rs rn rc_, .slice is_ inn ic_] w fun e w' => ∃ g m v2, m = (pickN (ofP Q X inn) rn).length ∧ w.heap.size ≤ g ∧ Rws w' g 0 m (onlyR Q (pickN (ofP Q X inn) rn)) ∧ w'.there g 0 (m * 14) ∧ OwnR 1 w.heap.size w' v2 m (intsV (pickN (ofP Q X inn) rn)) ∧ e = .returned (.tuple #[.slice (some ⟨g, 0, none⟩) m m, v2, .int .i64 0]) ∧ Bel w w' := by
 have hch := crB_all hcr
 have h1 : ¬ (1048576 : Int) < rn := by omega
 have h2 : ¬ (1024 : Int) < inn := by omega
 have hpl := pick_le (ofP Q X inn) rn
 have hpu := pick_up (ofP Q X inn) rn
 have hpm : ∀ i, i < (pickN (ofP Q X inn) rn).length → LN (pickN (ofP Q X inn) rn) i < rn := fun i hi => by rw [LN_get hi]; exact pick_mem (List.getElem_mem hi)
 have hgi : ∀ i, i < (pickN (ofP Q X inn) rn).length → (intsV (pickN (ofP Q X inn) rn))[i]? = some (.int .i64 (LN (pickN (ofP Q X inn) rn) i)) := fun i hi => by unfold intsV; rw [List.getElem?_map, List.getElem?_eq_getElem hi, LN_get hi]; rfl
 obtain ⟨L, eL⟩ : ∃ L, pickN (ofP Q X inn) rn = L := ⟨_, rfl⟩
 obtain ⟨m, em⟩ : ∃ m, L.length = m := ⟨_, rfl⟩
 rw [eL] at hpl hpu hpm hgi
 rw [em] at hpl hpm hgi
 have hmk := fun W => make_rows m (by omega) W
 unfold maxLen at hrm
 go_enter Try.func70, Try.ntmps70
 repeat (first | (go_at_call 110; (with_reducible refine (checkRows_w rb ro rn rc_ rs Q 1024 _ hrs hrc (by unfold maxLen; omega) hr or_).mono ?_); rintro e w1 ⟨rfl, hb⟩; rw [hcr]; simp only [cond_true]) | (go_at_call 111; (with_reducible refine (of_w rb ro rn rc_ rs Q ib io inn ic_ is_ X _ hrs hrc (by unfold maxLen; omega) (hr.bel hb) or_ his hic him (hi_.bel hb) hl1 hl2 hch).mono ?_); rintro e w3 ⟨v2, hO, rfl, hb3⟩; rw [eL, em] at hO; obtain ⟨sl, c2, g2, rfl, hsl, hc2, hI⟩ := own_ints hO hgi) | go_values | go_skip | go_guarded | go_step | go_upon | go_back | dsimp only)
 have hup : ∀ a b, a < b → b < m → ((LN L a : Nat) : Int) < ((LN L b : Nat) : Int) := fun a b hab hb => by
  rw [LN_get (by omega), LN_get (by omega)]
  have := List.pairwise_iff_getElem.1 hpu a b (by omega) (by omega) hab
  omega
 have B3 := bl_trans hb hb3
 have hz4 : w3.heap.size < (w3.alloc (.cells (madeCells #[.int .i64 0, .int .i64 0, .float .f64 0, .float .f64 0, .float .f64 0, .float .f64 0, .float .f64 0, .float .f64 0, .float .f64 0, .float .f64 0, .float .f64 0, .float .f64 0, .int .i64 0, .float .f64 0] (m * 14)) 43)).heap.size := by rw [World.size_alloc]; omega
 go_loopw [35] (fun i wr => ∃ k : Nat, k ≤ m ∧ i = .int .i64 k ∧ Bel w3 wr ∧ w3.heap.size < wr.heap.size ∧ wr.there (w3.heap.size) 0 (m * 14) ∧ Rws wr (w3.heap.size) 0 k (onlyR Q L)) (fun i _ => m - (intOf i).toNat)
 case atStart => exact ⟨0, by omega, rfl, bl_alloc (bl_refl _) _ _, hz4, made_there _ _ _ _, fun i hi => by omega⟩
 case round =>
  obtain ⟨k, hk, rfl, hB, hz, hth, hRw⟩ := hrel
  clear hmk
  by_cases hlt : k < m
  ·have e9 : rs = some ⟨rb, ro, none⟩ := by have := hpm k hlt; rcases hrs with h | h; omega; exact h
   subst e9
   have e8 : sl = some ⟨g2, 0, none⟩ := by rcases hsl with h | h; omega; exact h
   subst e8
   have hkI : (k : Int) < (m : Int) := by omega
   have hnr := hpm k hlt
   have hnI : ((LN L k : Nat) : Int) < (rn : Int) := by omega
   have x0 : wr.cell? ⟨g2, k, none⟩ = some (.int .i64 ((LN L k : Nat) : Int)) := by have h := (hI.bel hB) k hlt; rwa [Nat.zero_add] at h
   have hld : wr.rangeAt rb (ro + LN L k * 14) [.int .i64 (Q (LN L k)).ra, .int .i64 (Q (LN L k)).rb, .float .f64 (Q (LN L k)).r2, .float .f64 (Q (LN L k)).r3, .float .f64 (Q (LN L k)).r4, .float .f64 (Q (LN L k)).r5, .float .f64 (Q (LN L k)).r6, .float .f64 (Q (LN L k)).r7, .float .f64 (Q (LN L k)).r8, .float .f64 (Q (LN L k)).r9, .float .f64 (Q (LN L k)).r10, .float .f64 (Q (LN L k)).r11, .int .i64 (Q (LN L k)).ro, .float .f64 (Q (LN L k)).r13] := ((hr.bel B3).bel hB) _ hnr
   have hts : wr.there (w3.heap.size) (k * 14) 14 := there_sub hth (by omega)
   have B5 : Bel w3 (wr.setCells (w3.heap.size) (k * 14) [.int .i64 (Q (LN L k)).ra, .int .i64 (Q (LN L k)).rb, .float .f64 (Q (LN L k)).r2, .float .f64 (Q (LN L k)).r3, .float .f64 (Q (LN L k)).r4, .float .f64 (Q (LN L k)).r5, .float .f64 (Q (LN L k)).r6, .float .f64 (Q (LN L k)).r7, .float .f64 (Q (LN L k)).r8, .float .f64 (Q (LN L k)).r9, .float .f64 (Q (LN L k)).r10, .float .f64 (Q (LN L k)).r11, .int .i64 (Q (LN L k)).ro, .float .f64 (Q (LN L k)).r13]) := bel_setsJ _ _ hB (Nat.le_refl _)
   have hr5 : (wr.setCells (w3.heap.size) (k * 14) [.int .i64 (Q (LN L k)).ra, .int .i64 (Q (LN L k)).rb, .float .f64 (Q (LN L k)).r2, .float .f64 (Q (LN L k)).r3, .float .f64 (Q (LN L k)).r4, .float .f64 (Q (LN L k)).r5, .float .f64 (Q (LN L k)).r6, .float .f64 (Q (LN L k)).r7, .float .f64 (Q (LN L k)).r8, .float .f64 (Q (LN L k)).r9, .float .f64 (Q (LN L k)).r10, .float .f64 (Q (LN L k)).r11, .int .i64 (Q (LN L k)).ro, .float .f64 (Q (LN L k)).r13]).rangeAt (w3.heap.size) (k * 14) [.int .i64 (Q (LN L k)).ra, .int .i64 (Q (LN L k)).rb, .float .f64 (Q (LN L k)).r2, .float .f64 (Q (LN L k)).r3, .float .f64 (Q (LN L k)).r4, .float .f64 (Q (LN L k)).r5, .float .f64 (Q (LN L k)).r6, .float .f64 (Q (LN L k)).r7, .float .f64 (Q (LN L k)).r8, .float .f64 (Q (LN L k)).r9, .float .f64 (Q (LN L k)).r10, .float .f64 (Q (LN L k)).r11, .int .i64 (Q (LN L k)).ro, .float .f64 (Q (LN L k)).r13] := World.rangeAt_setCells_same _ _ _ _ hts
   have kOf : (wr.setCells (w3.heap.size) (k * 14) [.int .i64 (Q (LN L k)).ra, .int .i64 (Q (LN L k)).rb, .float .f64 (Q (LN L k)).r2, .float .f64 (Q (LN L k)).r3, .float .f64 (Q (LN L k)).r4, .float .f64 (Q (LN L k)).r5, .float .f64 (Q (LN L k)).r6, .float .f64 (Q (LN L k)).r7, .float .f64 (Q (LN L k)).r8, .float .f64 (Q (LN L k)).r9, .float .f64 (Q (LN L k)).r10, .float .f64 (Q (LN L k)).r11, .int .i64 (Q (LN L k)).ro, .float .f64 (Q (LN L k)).r13]).cell? ⟨rb, ro + LN L k * 14 + 12, none⟩ = some (.int .i64 (Q (LN L k)).ro) := ((hr.bel B3).bel B5) _ hnr 12 _ rfl
   have kst : (wr.setCells (w3.heap.size) (k * 14) [.int .i64 (Q (LN L k)).ra, .int .i64 (Q (LN L k)).rb, .float .f64 (Q (LN L k)).r2, .float .f64 (Q (LN L k)).r3, .float .f64 (Q (LN L k)).r4, .float .f64 (Q (LN L k)).r5, .float .f64 (Q (LN L k)).r6, .float .f64 (Q (LN L k)).r7, .float .f64 (Q (LN L k)).r8, .float .f64 (Q (LN L k)).r9, .float .f64 (Q (LN L k)).r10, .float .f64 (Q (LN L k)).r11, .int .i64 (Q (LN L k)).ro, .float .f64 (Q (LN L k)).r13]).cell? ⟨w3.heap.size, k * 14 + 12, none⟩ = some (.int .i64 (Q (LN L k)).ro) := hr5 12 _ rfl
   have hth5 : (wr.setCells (w3.heap.size) (k * 14) [.int .i64 (Q (LN L k)).ra, .int .i64 (Q (LN L k)).rb, .float .f64 (Q (LN L k)).r2, .float .f64 (Q (LN L k)).r3, .float .f64 (Q (LN L k)).r4, .float .f64 (Q (LN L k)).r5, .float .f64 (Q (LN L k)).r6, .float .f64 (Q (LN L k)).r7, .float .f64 (Q (LN L k)).r8, .float .f64 (Q (LN L k)).r9, .float .f64 (Q (LN L k)).r10, .float .f64 (Q (LN L k)).r11, .int .i64 (Q (LN L k)).ro, .float .f64 (Q (LN L k)).r13]).there (w3.heap.size) 0 (m * 14) := World.there_setCells hth _ _ _
   have fst5 : (wr.setCells (w3.heap.size) (k * 14) [.int .i64 (Q (LN L k)).ra, .int .i64 (Q (LN L k)).rb, .float .f64 (Q (LN L k)).r2, .float .f64 (Q (LN L k)).r3, .float .f64 (Q (LN L k)).r4, .float .f64 (Q (LN L k)).r5, .float .f64 (Q (LN L k)).r6, .float .f64 (Q (LN L k)).r7, .float .f64 (Q (LN L k)).r8, .float .f64 (Q (LN L k)).r9, .float .f64 (Q (LN L k)).r10, .float .f64 (Q (LN L k)).r11, .int .i64 (Q (LN L k)).ro, .float .f64 (Q (LN L k)).r13]).frozen? ⟨w3.heap.size, k * 14 + 12, none⟩ = false := by have h := (hth5 (k * 14 + 12) (by omega)).2; rwa [Nat.zero_add] at h
   repeat (first | ((with_reducible show Oper.wp _ ⟨_, Op.load 43 _, _, _, _, _⟩ _ _ _ _); refine wp_load_mid (P := Try.prog) 43 _ rfl _ _ rfl [.int .i64 (Q (LN L k)).ra, .int .i64 (Q (LN L k)).rb, .float .f64 (Q (LN L k)).r2, .float .f64 (Q (LN L k)).r3, .float .f64 (Q (LN L k)).r4, .float .f64 (Q (LN L k)).r5, .float .f64 (Q (LN L k)).r6, .float .f64 (Q (LN L k)).r7, .float .f64 (Q (LN L k)).r8, .float .f64 (Q (LN L k)).r9, .float .f64 (Q (LN L k)).r10, .float .f64 (Q (LN L k)).r11, .int .i64 (Q (LN L k)).ro, .float .f64 (Q (LN L k)).r13] _ hld Try.underlying43 rfl (by kernel_rfl) ?_; simp only [go_sem]) | ((with_reducible show Oper.wp _ ⟨_, Op.store 43 _ _, _, _, _, _⟩ _ _ _ _); refine wp_store_mid (P := Try.prog) 43 _ _ rfl (w3.heap.size) (k * 14) #[.int .i64 (Q (LN L k)).ra, .int .i64 (Q (LN L k)).rb, .float .f64 (Q (LN L k)).r2, .float .f64 (Q (LN L k)).r3, .float .f64 (Q (LN L k)).r4, .float .f64 (Q (LN L k)).r5, .float .f64 (Q (LN L k)).r6, .float .f64 (Q (LN L k)).r7, .float .f64 (Q (LN L k)).r8, .float .f64 (Q (LN L k)).r9, .float .f64 (Q (LN L k)).r10, .float .f64 (Q (LN L k)).r11, .int .i64 (Q (LN L k)).ro, .float .f64 (Q (LN L k)).r13] rfl rfl hts (by kernel_rfl) (by kernel_rfl) ?_; simp only [go_sem]) | (go_at_call 112; (with_reducible refine (bsearch_w g2 m c2 _ (fun i => ((LN L i : Nat) : Int)) _ _ hsl hc2 (by omega) (hI.bel B5) hup).mono ?_); rintro e w6 ⟨r, f, hf1, hf2, rfl, hw6⟩; rw [hw6]; cases f) | go_values | go_skip | go_guarded | go_step | go_upon | go_back | dsimp only)
   all_goals
    repeat (first | go_values | go_skip | go_guarded | go_step | go_upon | go_back | dsimp only)
    refine ⟨⟨k + 1, by omega, by go_num, bel_set1 B5 (Nat.le_refl _), by rw [size_set, size_setsJ]; exact hz, there_set hth5, ?_⟩, by simp [intOf]; omega⟩
   ·have ep : posI L (Q (LN L k)).ro = -1 := pos_no (fun i hi => hf2 rfl i (by omega))
    exact rws_next hRw (by have h := rng_set12 (t := -1) hr5; unfold onlyR; rw [ep]; exact h) hz
   ·obtain ⟨hf3, hf4⟩ := hf1 rfl
    have ep : posI L (Q (LN L k)).ro = (r : Int) := pos_yes hpu (by omega) hf4
    exact rws_next hRw (by have h := rng_set12 (t := (r : Int)) hr5; unfold onlyR; rw [ep]; exact h) hz
  ·have hkn : k = m := by omega
   subst hkn
   repeat (first | go_values | go_skip | go_guarded | go_step | go_upon | go_back | dsimp only)
   refine bodyPost_ret (v := .tuple #[.slice (some ⟨w3.heap.size, 0, none⟩) k k, .slice sl k c2, .int .i64 0]) (by kernel_rfl) rfl ?_
   rw [eL]
   exact ⟨w3.heap.size, k, _, em.symm, B3.size, hRw, hth, (hO.base9 hb.size).bel hB, rfl, bl_trans B3 hB⟩
def rw21 (a b : Int) : RD := ⟨a, b, 0, 13830554455654793216, 0, 4607182418800017408, 0, 0, 0, 0, 9218868437227405312, 0, -1, 0⟩
def ps21 : SD := ⟨4607182418800017408, 4602678819172646912, 0, 13835058055282163712, 0⟩
def q21 : Nat → RD := fun _ => rw21 0 1
def s21 : Nat → SD := fun i => if i = 0 then Z5S else ps21
def q23 : Nat → RD := fun i => if i = 0 then rw21 0 1 else if i = 1 then rw21 2 3 else rw21 3 0
theorem as21 : asE q21 1 s21 2 = 0 := by decide +kernel
theorem le21 : leM q21 s21 1 = 4611686018427387904 := by decide +kernel
theorem ap21 : apB q21 1 q21 1 s21 = false := by decide +kernel
theorem cr23 : crB q23 3 1024 3 = true := by decide +kernel
theorem pk23 : pickN (ofP q23 (fun _ => 3) 1) 3 = [1, 2] := by decide +kernel
theorem it21 : ((itM q21 (fun i => tlS (s21 i)) 1 1).1 0).r11 = 4611686018427387904 ∧ ((itM q21 (fun i => tlS (s21 i)) 1 1).2 1).sy = 0 := by decide +kernel
theorem crB_of {Q : Nat → RD} {n m : Int} : ∀ {j : Nat}, (∀ k, k < j → chB (Q k) n m = true) → crB Q n m j = true
 | 0, _ => rfl
 | j + 1, h => by
  unfold crB
  rw [crB_of (fun k hk => h k (by omega)), h j (by omega)]
  rfl
theorem anyN_of {p : Nat → Bool} : ∀ {n : Nat}, (∀ i, i < n → p i = false) → anyN p n = false
 | 0, _ => rfl
 | n + 1, h => by
  unfold anyN
  rw [anyN_of (fun k hk => h k (by omega)), h n (by omega)]
  rfl
theorem asE_of {Q : Nat → RD} {n : Nat} {S : Nat → SD} {m : Nat} (h1 : n ≤ 1048576) (h2 : m ≤ 1024) (h3 : ∀ i, i < n → chB (Q i) n m = true) (h4 : ∀ i, i < m → stB (S i) = true) : asE Q n S m = 0 := by
 unfold asE
 rw [if_neg (by omega), crB_of h3, anyN_of (fun i hi => by rw [h4 i hi]; rfl)]
 rfl
theorem off_rel {T : RD} {a b m n : SD} (h : RelS a m) (g : RelS b n) : offF T a b = offF T m n := by unfold offF; rw [lk_rel h g, wt_rel h g]
theorem le_rel {Q : Nat → RD} {S M : Nat → SD} {sn : Nat} (h : ∀ i, i < sn → RelS (S i) (M i)) : ∀ {k : Nat}, (∀ i, i < k → (Q i).ra.toNat < sn ∧ (Q i).rb.toNat < sn) → leM Q S k = leM Q M k
 | 0, _ => rfl
 | k + 1, hk => by
  unfold leM
  rw [le_rel h (fun i hi => hk i (by omega)), off_rel (h _ (hk k (by omega)).1) (h _ (hk k (by omega)).2)]
theorem all21 : asE (itM q21 (fun i => tlS (s21 i)) 1 1).1 1 (itM q21 (fun i => tlS (s21 i)) 1 1).2 2 = 0 ∧ leM (itM q21 (fun i => tlS (s21 i)) 1 1).1 (itM q21 (fun i => tlS (s21 i)) 1 1).2 1 = 0 := by decide +kernel
set_option maxRecDepth 100000 in
set_option maxHeartbeats 4000000 in
theorem row_w (a b : Int) (w : World) : Calls Try.prog 68 #[.int .i64 a, .int .i64 b] w fun e w' => e = .returned (.agg #[.int .i64 a, .int .i64 b, .float .f64 0, .float .f64 13830554455654793216, .float .f64 0, .float .f64 4607182418800017408, .float .f64 0, .float .f64 0, .float .f64 0, .float .f64 0, .float .f64 9218868437227405312, .float .f64 0, .int .i64 (-1), .float .f64 0]) ∧ Bel w w' := by
 have hX : (w.alloc (.cells #[.int .i64 0, .int .i64 0, .float .f64 0, .float .f64 0, .float .f64 0, .float .f64 0, .float .f64 0, .float .f64 0, .float .f64 0, .float .f64 0, .float .f64 0, .float .f64 0, .int .i64 0, .float .f64 0] 43)).there (w.heap.size) 0 14 := there_new w [.int .i64 0, .int .i64 0, .float .f64 0, .float .f64 0, .float .f64 0, .float .f64 0, .float .f64 0, .float .f64 0, .float .f64 0, .float .f64 0, .float .f64 0, .float .f64 0, .int .i64 0, .float .f64 0] 43
 have B0 : Bel w (w.alloc (.cells #[.int .i64 0, .int .i64 0, .float .f64 0, .float .f64 0, .float .f64 0, .float .f64 0, .float .f64 0, .float .f64 0, .float .f64 0, .float .f64 0, .float .f64 0, .float .f64 0, .int .i64 0, .float .f64 0] 43)) := bl_alloc (bl_refl w) _ _
 go_enter Try.func68, Try.ntmps68
 repeat (first | ((with_reducible show Oper.wp _ { dst := some 7, op := Op.build 26 _, type := _, pos := _, after := _, guard := _ } _ _ _ _); refine wp_build 26 _ rfl (.agg #[.float .f64 0, .float .f64 13830554455654793216]) (by kernel_rfl) ?_; simp only [go_sem]) | ((with_reducible show Oper.wp _ { dst := some 8, op := Op.build 26 _, type := _, pos := _, after := _, guard := _ } _ _ _ _); refine wp_build 26 _ rfl (.agg #[.float .f64 0, .float .f64 4607182418800017408]) (by kernel_rfl) ?_; simp only [go_sem]) | (go_at_call 40; refine (inf20 _).mono ?_; rintro e w' ⟨rfl, rfl⟩) | ((with_reducible show Oper.wp _ { dst := some 10, op := Op.build 43 _, type := _, pos := _, after := _, guard := _ } _ _ _ _); refine wp_build 43 _ rfl (.agg #[.int .i64 a, .int .i64 b, .float .f64 0, .float .f64 13830554455654793216, .float .f64 0, .float .f64 4607182418800017408, .float .f64 0, .float .f64 0, .float .f64 0, .float .f64 0, .float .f64 9218868437227405312, .float .f64 0, .int .i64 (-1), .float .f64 0]) (by kernel_rfl) ?_; simp only [go_sem]) | ((with_reducible show Oper.wp _ ⟨_, Op.store 43 _ _, _, _, _, _⟩ _ _ _ _); refine wp_store_abs (P := Try.prog) 43 _ _ rfl (w.heap.size) 0 #[.int .i64 a, .int .i64 b, .float .f64 0, .float .f64 13830554455654793216, .float .f64 0, .float .f64 4607182418800017408, .float .f64 0, .float .f64 0, .float .f64 0, .float .f64 0, .float .f64 9218868437227405312, .float .f64 0, .int .i64 (-1), .float .f64 0] rfl rfl hX (by kernel_rfl) (by kernel_rfl) (fun V => Bel w V ∧ V.rangeAt (w.heap.size) 0 [.int .i64 a, .int .i64 b, .float .f64 0, .float .f64 13830554455654793216, .float .f64 0, .float .f64 4607182418800017408, .float .f64 0, .float .f64 0, .float .f64 0, .float .f64 0, .float .f64 9218868437227405312, .float .f64 0, .int .i64 (-1), .float .f64 0]) ⟨bel_setsJ _ _ B0 (Nat.le_refl _), World.rangeAt_setCells_same _ _ _ _ hX⟩ ?_; rintro V ⟨BV, hV⟩; simp only [go_sem]) | go_values | go_skip | go_guarded | go_step | go_upon | go_back | dsimp only)
 refine bodyPost_ret (results_c (c := 4) (ty := 43) rfl rfl (run_loadVar_mid _ (w.heap.size) 0 43 [.int .i64 a, .int .i64 b, .float .f64 0, .float .f64 13830554455654793216, .float .f64 0, .float .f64 4607182418800017408, .float .f64 0, .float .f64 0, .float .f64 0, .float .f64 0, .float .f64 9218868437227405312, .float .f64 0, .int .i64 (-1), .float .f64 0] _ hV Try.underlying43 rfl (by kernel_rfl))) rfl ?_
 exact ⟨rfl, BV⟩
end Go.Proofs.Ytfohggiehbplkaa
