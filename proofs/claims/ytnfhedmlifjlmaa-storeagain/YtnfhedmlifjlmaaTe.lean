/-
  What each function of package store answers, and what its memory holds afterwards: one contract a function; of the memory that was there only the store's own blocks have turned.
-/
import Derived.Test.YtnfhedmlifjlmaaChecked
import Derived.Test.YtnfhedmlifjlmaaSa
import Derived.Below
import Derived.BigQuiet
import Derived.OwnWalk
import Derived.Laws.AppendOwn
import Derived.Laws.AppendOwnNone
import Derived.WalkKit
import Derived.WalkLawsBesides
import Derived.WalkSpells
import Derived.ProofKit
import Derived.OpenShut
import Derived.Deep.RegionHeld3
import Derived.Deep.LoopGhost
import Derived.Laws.StructEq
import Derived.Lib.Builder
import Derived.Deep.DeepCutAuto
import Derived.Lib.SliceRun
import Derived.Laws.MakeOwn
namespace Go.Proofs.Ytnfhedmlifjlmaa
open Go.ChangeShapes Go.WideShapes Go.ChangeAt Go.RowKit Go.Lib
set_option linter.unusedVariables false
set_option linter.unusedSimpArgs false
set_option maxRecDepth 100000
set_option maxHeartbeats 4000000


theorem empty_S (m : Sm) (s : Ss) (w : World) (h : Sto w m s) (k : Nat) (hk : k < s.T.length) (hk2 : s.T.length ≤ 16384) : Calls Try.prog 38 #[.pointer (some ⟨m.p, 0, none⟩), .int .i64 (k : Int)] w fun e w' => e = .returned (.tuple #[]) ∧ Sto w' m { s with T := s.T.set k (.string { data := #[] }) } ∧ Fr m.F m.F w w' := by
  obtain ⟨g, hg, h1, h2, hRw, h4, h5, _⟩ := h.rt.at (Nat.lt_of_le_of_lt (Nat.zero_le _) hk)
  have hS := hide (h.setT hg hk (.string { data := #[] }))
  have hF := hide ((Fr.refl m.F w).set (.inl (Sm.tF hg)) k (.string { data := #[] }))
  have c4 := h.c4
  rw [hg] at c4
  obtain ⟨n, hn⟩ : ∃ n, s.T.length = n := ⟨_, rfl⟩
  rw [hn] at c4 h1 hk hk2
  clear hn hRw
  have hz : (k : Int) < (n : Int) := by omega
  have hz1 : (k : Int) + 1 ≤ (n : Int) := by omega
  have hz2 : (k : Int) + 1 ≤ (m.ct : Int) := by omega
  have hz3 : (k : Int) ≤ (k : Int) + 1 := by omega
  have hz4 : k + 1 ≤ m.ct := by omega
  have hz5 : k < m.ct := by omega
  have ew : IntKind.wrap .i64 ((k : Int) + 1) = (k : Int) + 1 := by rw [IntKind.wrap_i64]; omega
  obtain ⟨i0, hi, hz0, _, _⟩ := info_parts info_S
  have hcl := fun ty c => run_clear_slice (P := Try.prog) w 69 9 ty (.string { data := #[] }) Try.underlying69 (fun w => by simp [zeroValue, typeInfo, hi, hz0]) rfl rfl g k 1 c (by decide) (fun j hj => by rw [show j = 0 by omega, Nat.add_zero]; exact h4 k (by omega)) (fun j _ => h5 _)
  simp only [List.replicate_one, World.setCells] at hcl
  clear hi hz0 h4 h5
  go_enter Try.func38, Try.ntmps38
  go_wp2
  refine bodyPost_end (v := .tuple #[]) (by simp [results, Try.results38, go_sem]) rfl ?_
  exact ⟨rfl, hS.out, hF.out⟩

end Go.Proofs.Ytnfhedmlifjlmaa
