/-
  What each function of package store answers, and what its memory holds afterwards: one contract a function; of the memory that was there only the store's own blocks have turned.
-/
import Derived.Test.YtnfhedmlifjlmaaChecked
import Derived.Test.YtnfhedmlifjlmaaSab
import Derived.Test.YtnfhedmlifjlmaaSp
import Derived.Test.YtnfhedmlifjlmaaSto2
import Derived.RangeFuncNested
import Derived.RangeFuncBound
import Derived.RangeFuncCalls
import Derived.RangeFuncLeaves
import Derived.Shelf.Abstract
import Derived.Shelf.RegionOpen
import Derived.OwnWalkIn
import Derived.TacticsInMore
import Derived.LoopNIn
import Derived.LoopIn
import Derived.Maps.OwnIn
import Derived.Sort.LoopGhostIn
import Derived.BigRegionIn
import Derived.Stop.RegionWithIn
import Derived.Below
import Derived.BigQuiet
import Derived.OwnWalk
import Derived.Laws.AppendOwn
import Derived.Laws.AppendOwnNone
import Derived.WalkKit
import Derived.WalkLawsBesides
import Derived.WalkSpells
import Derived.ProofKit
import Derived.OpenShut
import Derived.Deep.RegionHeld3
import Derived.Deep.LoopGhost
import Derived.Laws.StructEq
import Derived.Lib.Builder
import Derived.Deep.DeepCutAuto
import Derived.Lib.SliceRun
import Derived.Laws.MakeOwn
namespace Go.Proofs.Ytnfhedmlifjlmaa
open Go.ChangeShapes Go.WideShapes Go.ChangeAt Go.RowKit Go.Lib
set_option linter.unusedVariables false
set_option linter.unusedSimpArgs false
set_option maxRecDepth 100000
set_option maxHeartbeats 4000000


theorem slots_anyI (m : Sm) (s : Ss) (w : World) (h : Sto w m s) (G : Gd m s) {p : Nat} (hp : m.p = p) (n : Nat) (hn : s.U.length = n) : Calls Try.prog 14 #[.pointer (some ⟨p, 0, none⟩)] w fun e w' => ∃ su cu sl cl, e = .returned (.tuple #[.slice su n cu, .slice sl n cl]) ∧ Ro 1 w' su n cu (uRow s.U) ∧ (∀ k ∈ ob su, w.heap.size ≤ k) ∧ Ro 1 w' sl n cl (lRow s.L) ∧ (∀ k ∈ ob sl, w.heap.size ≤ k) ∧ (n = 0 → su = none ∧ cu = 0 ∧ sl = none ∧ cl = 0) ∧ Below w.heap.size w w' := by
  rcases Nat.eq_zero_or_pos n with h0 | h0
  · subst h0
    have hU := List.length_eq_zero_iff.1 hn
    have hL := List.length_eq_zero_iff.1 (G.ok.ll.trans hn)
    refine (slots_nilI m s w h hU hL (G.nm hU) hp).mono ?_
    rintro e w' ⟨rfl, hb⟩
    refine ⟨none, 0, none, 0, rfl, ?_, (fun k hk => by cases hk), ?_, (fun k hk => by cases hk), fun _ => ⟨rfl, rfl, rfl, rfl⟩, hb.1⟩
    · rw [hU]; exact Ro.nil _ _
    · rw [hL]; exact Ro.nil _ _
  · subst hp
    refine (slots_I m s w h G.ok n hn h0).mono ?_
    rintro e w' ⟨su, cu, sl, cl, rfl, h1, h2, h3, h4, h5⟩
    exact ⟨su, cu, sl, cl, rfl, h1, h2, h3, h4, (fun h => by omega), h5⟩
theorem open_anyI (n : Nat) (su sl : Option Addr) (cu cl g : Nat) (U : List Nat) (L : List Bool) (TT : List Value) (w : World) (hn : n ≤ 40) (hu : Ro 1 w su n cu (uRow U)) (hl : Ro 1 w sl n cl (lRow L)) (ht : Ro 1 w (some ⟨g, 0, none⟩) n n TT) (hU : U.length = n) (hL : L.length = n) (hz : n = 0 → su = none ∧ cu = 0 ∧ sl = none ∧ cl = 0) (ho : ∀ v ∈ TT, v.oneCell' = true) (hno : ∀ i : Nat, L[i]? = some true → U[i]? ≠ some 0) : Calls Try.prog 9 #[.int .i64 40, .slice su n cu, .slice sl n cl, .slice (some ⟨g, 0, none⟩) n n] w fun e w' => ∃ m : Sm, e = .returned (.tuple #[.pointer (some ⟨m.p, 0, none⟩), .int .i64 0]) ∧ (∀ k ∈ m.F, w.heap.size ≤ k) ∧ (n = 0 → m.su = none ∧ m.cu = 0 ∧ m.sl = none ∧ m.cl = 0) ∧ Sto w' m ⟨40, L.count true, 0, U, L, clrT L TT (.int .i64 0) n⟩ ∧ Below w.heap.size w w' := by
  have htl : TT.length = n := by have := ht.len; omega
  rcases Nat.eq_zero_or_pos n with h0 | h0
  · subst h0
    obtain ⟨rfl, rfl, rfl, rfl⟩ := hz rfl
    obtain rfl := List.length_eq_zero_iff.1 hU
    obtain rfl := List.length_eq_zero_iff.1 hL
    obtain rfl := List.length_eq_zero_iff.1 htl
    refine (open_0I g 0 w).mono ?_
    rintro e w' ⟨m, rfl, h1, h2, h3, h4, h5, h6, h7⟩
    exact ⟨m, rfl, h1, fun _ => ⟨h2, h3, h4, h5⟩, h6, h7.1⟩
  · obtain ⟨gu, rfl, _, _, ru, _⟩ := hu.at h0
    obtain ⟨gl, rfl, _, _, rl, _⟩ := hl.at h0
    obtain ⟨gt, e, _, _, rt, _⟩ := ht.at h0
    have hc := open_I 40 gu 0 gl 0 g 0 n cu cl n U L TT w (by decide) (by decide) ru rl (by have e := Option.some.inj e; injection e with e; rw [e]; exact rt) hU hL htl h0 hn ho hno
    refine hc.mono ?_
    rintro e w' ⟨m, rfl, h1, h2, h3⟩
    exact ⟨m, rfl, h1, (fun h => by omega), h2, h3⟩

end Go.Proofs.Ytnfhedmlifjlmaa
