/-
  What each function of package store answers, and what its memory holds afterwards: one contract a function; of the memory that was there only the store's own blocks have turned.
-/
import Derived.Test.YtnfhedmlifjlmaaChecked
import Derived.Test.YtnfhedmlifjlmaaSl
import Derived.Below
import Derived.BigQuiet
import Derived.OwnWalk
import Derived.Laws.AppendOwn
import Derived.Laws.AppendOwnNone
import Derived.WalkKit
import Derived.WalkLawsBesides
import Derived.WalkSpells
import Derived.ProofKit
import Derived.OpenShut
import Derived.Deep.RegionHeld3
import Derived.Deep.LoopGhost
import Derived.Laws.StructEq
import Derived.Lib.Builder
import Derived.Deep.DeepCutAuto
import Derived.Lib.SliceRun
import Derived.Laws.MakeOwn
namespace Go.Proofs.Ytnfhedmlifjlmaa
open Go.ChangeShapes Go.WideShapes Go.ChangeAt Go.RowKit Go.Lib
set_option linter.unusedVariables false
set_option linter.unusedSimpArgs false
set_option maxRecDepth 100000
set_option maxHeartbeats 4000000


theorem all_I (m : Sm) (s : Ss) (w : World) (h : Sto w m s) (ho : Okk s) (hT1 : ∀ v ∈ s.T, ∃ x : Int, v = .int .i64 x) : Calls Try.prog 13 #[.pointer (some ⟨m.p, 0, none⟩)] w fun e w' => ∃ (c n : Nat) (sh : Option Addr) (ch : Nat) (sx : Option Addr) (cx : Nat), e = .returned (.func (.func 33) #[] #[.pointer (some ⟨c, 0, none⟩), .pointer (some ⟨(c + 1), 0, none⟩)]) ∧ w.heap.size ≤ c ∧ w'.cell? ⟨c, 0, none⟩ = some (.slice sh n ch) ∧ w'.cell? ⟨c + 1, 0, none⟩ = some (.slice sx n cx) ∧ (heH s s.U.length).length = n ∧ (∀ k, k ∈ ob sh ∨ k ∈ ob sx → k < c) ∧ Pt2 w w' m s sh ch sx cx (heH s s.U.length) (heT s s.U.length) := by
  have hth := there_I m s w h ho hT1
  obtain ⟨n, hn⟩ : ∃ n, (heH s s.U.length).length = n := ⟨_, rfl⟩
  rw [hn] at hth
  have HN := hide hn
  clear hn
  go_enter Try.func13, Try.ntmps13
  go_wp2_with (first | (go_at_call 32; (with_reducible refine hth.mono ?_); rintro e w1 ⟨sh, ch, sx, cx, rfl, hP⟩; replace hP := hide hP))
  go_ret
  have b1 := st_bel (W := w1) #[.slice sh n ch] 39
  have b2 := st_bel (W := w1.alloc (.cells #[.slice sh n ch] 39)) #[.slice sx n cx] 35
  have x1 : (w1.alloc (.cells #[.slice sh n ch] 39)).cell? ⟨w1.heap.size, 0, none⟩ = some (.slice sh n ch) := by rw [World.cell?_alloc_new]; rfl
  have x2 : ((w1.alloc (.cells #[.slice sh n ch] 39)).alloc (.cells #[.slice sx n cx] 35)).cell? ⟨w1.heap.size + 1, 0, none⟩ = some (.slice sx n cx) := by
    have := World.cell?_alloc_new (w1.alloc (.cells #[.slice sh n ch] 39)) #[.slice sx n cx] 35 0
    simp only [World.size_alloc] at this
    rw [this]; rfl
  refine ⟨w1.heap.size, n, sh, ch, sx, cx, rfl, hP.out.fr.size, keep b2 x1, x2, HN.out, fun k hk => ?_, (hP.out.bel b1).bel b2⟩
  rcases hk with hk | hk
  · exact hP.out.rh.lt k hk
  · exact hP.out.rx.lt k hk

end Go.Proofs.Ytnfhedmlifjlmaa
