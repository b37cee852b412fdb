/-
  What each function of package store answers, and what its memory holds afterwards: one contract a function; of the memory that was there only the store's own blocks have turned.
-/
import Derived.Test.YtnfhedmlifjlmaaChecked
import Derived.Test.YtnfhedmlifjlmaaSa
import Derived.Below
import Derived.BigQuiet
import Derived.OwnWalk
import Derived.Laws.AppendOwn
import Derived.Laws.AppendOwnNone
import Derived.WalkKit
import Derived.WalkLawsBesides
import Derived.WalkSpells
import Derived.ProofKit
import Derived.OpenShut
import Derived.Deep.RegionHeld3
import Derived.Deep.LoopGhost
import Derived.Laws.StructEq
import Derived.Lib.Builder
import Derived.Deep.DeepCutAuto
import Derived.Lib.SliceRun
import Derived.Laws.MakeOwn
namespace Go.Proofs.Ytnfhedmlifjlmaa
open Go.ChangeShapes Go.WideShapes Go.ChangeAt Go.RowKit Go.Lib
set_option linter.unusedVariables false
set_option linter.unusedSimpArgs false
set_option maxRecDepth 100000
set_option maxHeartbeats 4000000


theorem clone_uI (w : World) : Calls Try.prog 25 #[.slice none 0 0] w fun e w' => e = .returned (.slice none 0 0) ∧ w' = w := by
  have qs := fun w : World => run_eql_slice_nil (P := Try.prog) w 33 27 none 0 0 0 0 Try.underlying33
  go_enter Try.func25, Try.ntmps25
  go_wp2
  go_ret
  exact ⟨rfl, rfl⟩

theorem clone_bI (w : World) : Calls Try.prog 26 #[.slice none 0 0] w fun e w' => e = .returned (.slice none 0 0) ∧ w' = w := by
  have qs := fun w : World => run_eql_slice_nil (P := Try.prog) w 34 4 none 0 0 0 0 Try.underlying34
  go_enter Try.func26, Try.ntmps26
  go_wp2
  go_ret
  exact ⟨rfl, rfl⟩

theorem clone_tI (w : World) : Calls Try.prog 27 #[.slice none 0 0] w fun e w' => e = .returned (.slice none 0 0) ∧ w' = w := by
  have qs := fun w : World => run_eql_slice_nil (P := Try.prog) w 35 3 none 0 0 0 0 Try.underlying35
  go_enter Try.func27, Try.ntmps27
  go_wp2
  go_ret
  exact ⟨rfl, rfl⟩

theorem unused_nilI (w : World) : Calls Try.prog 24 #[.slice none 0 0, .slice none 0 0] w fun e w' => e = .returned (.bool false) ∧ w' = w := by
  go_enter Try.func24, Try.ntmps24
  go_wp2
  go_loopg [9] 0 (fun kx s9 wr => s9 = .int .i64 0 ∧ wr = w)
  case atStart => exact ⟨rfl, rfl⟩
  case round =>
    obtain ⟨rfl, rfl⟩ := hrel
    go_wp2
    go_ret
    exact ⟨rfl, rfl⟩
theorem open_nilI (most : Nat) (h1 : 1 ≤ most) (h2 : most ≤ 16384) (w : World) : Calls Try.prog 9 #[.int .i64 (most : Int), .slice none 0 0, .slice none 0 0, .slice none 0 0] w fun e w' => ∃ p, e = .returned (.tuple #[.pointer (some ⟨p, 0, none⟩), .int .i64 0]) ∧ w.heap.size ≤ p ∧ Sto w' ⟨p, none, 0, none, 0, none, 0⟩ ⟨most, 0, 0, [], [], []⟩ ∧ Bel w w' := by
  have z1 : ¬ (most : Int) < 1 := by omega
  have z2 : ¬ (16384 : Int) < (most : Int) := by omega
  have b1 := hide (bl_alloc (bl_refl w) #[.pointer (some ⟨w.heap.size, 0, none⟩), .int .i64 (most : Int), .slice none 0 0, .slice none 0 0, .slice none 0 0, .int .i64 0, .int .i64 0] 54)
  have x : ∀ o v, #[.pointer (some ⟨w.heap.size, 0, none⟩), .int .i64 (most : Int), .slice none 0 0, .slice none 0 0, .slice none 0 0, .int .i64 0, .int .i64 0][o]? = some v → (w.alloc (.cells #[.pointer (some ⟨w.heap.size, 0, none⟩), .int .i64 (most : Int), .slice none 0 0, .slice none 0 0, .slice none 0 0, .int .i64 0, .int .i64 0] 54)).cell? ⟨w.heap.size, o, none⟩ = some v := fun o v h => by
    rw [World.cell?_alloc_new]; exact h
  have hS := hide (show Sto (w.alloc (.cells #[.pointer (some ⟨w.heap.size, 0, none⟩), .int .i64 (most : Int), .slice none 0 0, .slice none 0 0, .slice none 0 0, .int .i64 0, .int .i64 0] 54)) ⟨w.heap.size, none, 0, none, 0, none, 0⟩ ⟨most, 0, 0, [], [], []⟩ from ⟨x 0 _ rfl, x 1 _ rfl, x 2 _ rfl, x 3 _ rfl, x 4 _ rfl, x 5 _ rfl, x 6 _ rfl, fun o => fz_new o, Ro.nil _ _, Ro.nil _ _, Ro.nil _ _, by simp [ob], by simp [ob], by simp [ob], (fun k hk => by cases hk), (fun k hk => by cases hk)⟩)
  clear x
  go_enter Try.func9, Try.ntmps9
  go_wp2_with (first | (go_at_call 24; (with_reducible refine (unused_nilI _).mono ?_); rintro e w1 ⟨rfl, hw1⟩; rw [hw1]; clear hw1) | (go_at_call 25; (with_reducible refine (clone_uI _).mono ?_); rintro e w1 ⟨rfl, hw1⟩; rw [hw1]; clear hw1) | (go_at_call 26; (with_reducible refine (clone_bI _).mono ?_); rintro e w1 ⟨rfl, hw1⟩; rw [hw1]; clear hw1) | (go_at_call 27; (with_reducible refine (clone_tI _).mono ?_); rintro e w1 ⟨rfl, hw1⟩; rw [hw1]; clear hw1))
  obtain ⟨W, hW⟩ : ∃ x, x = w.alloc (.cells #[.pointer (some ⟨w.heap.size, 0, none⟩), .int .i64 (most : Int), .slice none 0 0, .slice none 0 0, .slice none 0 0, .int .i64 0, .int .i64 0] 54) := ⟨_, rfl⟩
  rw [← hW] at hS b1 ⊢
  clear hW
  go_loopg [57] 0 (fun kx s57 wr => s57 = .int .i64 0 ∧ wr = W)
  case atStart => exact ⟨rfl, rfl⟩
  case round =>
    obtain ⟨rfl, hwr⟩ := hrel
    rw [hwr]
    clear hwr
    go_wp2
    refine bodyPost_ret (v := .tuple #[.pointer (some ⟨w.heap.size, 0, none⟩), .int .i64 0]) (by simp [results, Try.results9, go_sem]) rfl ?_
    exact ⟨_, rfl, Nat.le_refl _, hS.out, b1.out⟩
theorem new_I (most : Nat) (h1 : 1 ≤ most) (h2 : most ≤ 16384) (w : World) : Calls Try.prog 6 #[.int .i64 (most : Int)] w fun e w' => ∃ p, e = .returned (.tuple #[.pointer (some ⟨p, 0, none⟩), .int .i64 0]) ∧ w.heap.size ≤ p ∧ Sto w' ⟨p, none, 0, none, 0, none, 0⟩ ⟨most, 0, 0, [], [], []⟩ ∧ Bel w w' := by
  have hop := open_nilI most h1 h2 w
  go_enter Try.func6, Try.ntmps6
  go_wp2_with (first | (go_at_call 9; (with_reducible refine hop.mono ?_); rintro e w1 ⟨p, rfl, hp, hS, hb⟩; replace hS := hide hS; replace hb := hide hb))
  refine bodyPost_ret (v := .tuple #[.pointer (some ⟨p, 0, none⟩), .int .i64 0]) (by simp [results, Try.results6, go_sem]) rfl ?_
  exact ⟨p, rfl, hp, hS.out, hb.out⟩
theorem new_okI {most : Nat} (h1 : 1 ≤ most) (h2 : most ≤ 16384) : Okk ⟨most, 0, 0, [], [], []⟩ := ⟨h1, h2, by simp, rfl, rfl, (fun u hu => by cases hu), Nat.le_refl _, (fun i hi => absurd hi (Nat.not_lt_zero _)), rfl⟩

end Go.Proofs.Ytnfhedmlifjlmaa
