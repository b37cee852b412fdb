/-
  What each function of package store answers, and what its memory holds afterwards: one contract a function; of the memory that was there only the store's own blocks have turned.
-/
import Derived.Test.YtnfhedmlifjlmaaChecked
import Derived.Test.YtnfhedmlifjlmaaSto
import Derived.Test.YtnfhedmlifjlmaaSa
import Derived.RangeFuncNested
import Derived.RangeFuncBound
import Derived.RangeFuncCalls
import Derived.RangeFuncLeaves
import Derived.Shelf.Abstract
import Derived.Shelf.RegionOpen
import Derived.OwnWalkIn
import Derived.TacticsInMore
import Derived.LoopNIn
import Derived.LoopIn
import Derived.Maps.OwnIn
import Derived.Sort.LoopGhostIn
import Derived.BigRegionIn
import Derived.Stop.RegionWithIn
import Derived.Below
import Derived.BigQuiet
import Derived.OwnWalk
import Derived.Laws.AppendOwn
import Derived.Laws.AppendOwnNone
import Derived.WalkKit
import Derived.WalkLawsBesides
import Derived.WalkSpells
import Derived.ProofKit
import Derived.OpenShut
import Derived.Deep.RegionHeld3
import Derived.Deep.LoopGhost
import Derived.Laws.StructEq
import Derived.Lib.Builder
import Derived.Deep.DeepCutAuto
import Derived.Lib.SliceRun
import Derived.Laws.MakeOwn
namespace Go.Proofs.Ytnfhedmlifjlmaa
open Go.ChangeShapes Go.WideShapes Go.ChangeAt Go.RowKit Go.Lib
set_option linter.unusedVariables false
set_option linter.unusedSimpArgs false
set_option maxRecDepth 100000
set_option maxHeartbeats 4000000


theorem tmod_in (a : Int) (n : Nat) (h : 0 < n) : -(n : Int) < Int.tmod a n ∧ Int.tmod a n < (n : Int) := by
  refine ⟨?_, ?_⟩
  · rcases Int.le_total 0 a with h' | h'
    · have := Int.tmod_nonneg (n : Int) h'
      omega
    · have h1 := Int.tmod_nonneg (n : Int) (show (0 : Int) ≤ -a by omega)
      have h2 := Int.tmod_lt_of_pos (-a) (show (0 : Int) < (n : Int) by omega)
      rw [Int.neg_tmod] at h1 h2
      omega
  · exact Int.tmod_lt_of_pos a (by omega)
def upN (a : Int) (n : Nat) : Nat := (Int.tmod (Int.tmod a n + n) n).toNat
theorem upN_is (a : Int) (n : Nat) (h : 0 < n) : Int.tmod (Int.tmod a n + n) n = (upN a n : Int) ∧ upN a n < n := by
  obtain ⟨h1, h2⟩ := tmod_in a n h
  have h3 := Int.tmod_nonneg (n : Int) (show (0 : Int) ≤ Int.tmod a n + n by omega)
  have h4 := Int.tmod_lt_of_pos (Int.tmod a n + n) (show (0 : Int) < (n : Int) by omega)
  unfold upN
  omega
theorem up_s (a : Int) (n : Nat) {x : Int} (hx : (n : Int) = x) (h : 0 < n) (h2 : n ≤ 1000000) (w : World) : Calls Try.prog 31 #[.int .i64 a, .int .i64 x] w fun e w' => e = .returned (.int .i64 (upN a n : Int)) ∧ w' = w := by
  subst hx
  obtain ⟨h3, h4⟩ := upN_is a n h
  obtain ⟨h5, h6⟩ := tmod_in a n h
  have hz : ¬ (n : Int) = 0 := by omega
  have ew1 : IntKind.wrap .i64 (Int.tmod a n) = Int.tmod a n := by rw [IntKind.wrap_i64]; omega
  have ew2 : IntKind.wrap .i64 (Int.tmod a n + n) = Int.tmod a n + n := by rw [IntKind.wrap_i64]; omega
  have ew3 : IntKind.wrap .i64 (upN a n : Int) = (upN a n : Int) := by rw [IntKind.wrap_i64]; omega
  go_enter Try.func31, Try.ntmps31
  go_wp2
  go_ret
  exact ⟨rfl, rfl⟩
theorem make_bool (n : Nat) (hn : n ≤ 1000) (W : World) : (Instr.makeSlice 34 (.int .i64 n) (.int .i64 n)).run Try.prog W = .ok (.slice (some ⟨W.heap.size, 0, none⟩) n n) (W.alloc (.cells (Array.replicate n (.bool false)) 4)) := by
  have h := run_make (P := Try.prog) W 34 4 Try.t4 (.bool false) Try.underlying34 (by kernel_rfl) (by kernel_rfl) .i64 .i64 n n (by omega) (by omega) (by show ((1 : Nat) : Int) * n ≤ _; omega) (by omega)
  have e : madeCells (Value.bool false).cells (n * 1) = Array.replicate n (.bool false) := by
    apply Array.ext
    · simp [madeCells]
    · intro i h1 h2
      simp [madeCells, Value.cells, Nat.mod_one]
  rw [← e]
  exact h
theorem next_upto (s : Ss) : ∀ j, j ≤ s.U.length → (∃ k, NextIs s k) ∨ ∀ i, i < j → full s i := by
  intro j
  induction j with
  | zero => exact fun _ => .inr fun i hi => absurd hi (Nat.not_lt_zero _)
  | succ j ih =>
    intro hj
    rcases ih (by omega) with h | h
    · exact .inl h
    · by_cases hf : full s j
      · exact .inr fun i hi => by
          rcases Nat.lt_or_ge i j with h' | h'
          · exact h i h'
          · rw [show i = j by omega]; exact hf
      · exact .inl ⟨j, by omega, h, fun _ => hf⟩
theorem next_ex (s : Ss) : ∃ k, NextIs s k := by
  rcases next_upto s s.U.length (Nat.le_refl _) with h | h
  · exact h
  · exact ⟨s.U.length, Nat.le_refl _, h, fun h' => absurd h' (Nat.lt_irrefl _)⟩
/-- numbers that are handed in -/
def AnyI (w : World) (sa : Option Addr) (n : Nat) (Y : Nat → Int) : Prop := n = 0 ∨ ∃ b off, sa = some ⟨b, off, none⟩ ∧ (∀ i, i < n → w.cell? ⟨b, off + i, none⟩ = some (.int .i64 (Y i))) ∧ b < w.heap.size
theorem hRow_one (a b : Nat) : ∀ u ∈ hRow [(a, b)], u.oneCell' = true := by
  intro u hu
  simp [hRow] at hu
  rcases hu with rfl | rfl <;> rfl
theorem mk_rw (W : World) (cs : List Value) (t : TypeId) : Rw (W.alloc (.cells cs.toArray t)) W.heap.size 0 cs := by
  intro j u hj
  rw [Nat.zero_add, World.cell?_alloc_new, List.getElem?_toArray]
  exact hj

end Go.Proofs.Ytnfhedmlifjlmaa
