/-
  What each function of package store answers, and what its memory holds afterwards: one contract a function; of the memory that was there only the store's own blocks have turned.
-/
import Derived.Test.YtnfhedmlifjlmaaChecked
import Derived.Test.YtnfhedmlifjlmaaSto
import Derived.Test.YtnfhedmlifjlmaaOnc7
import Derived.Test.YtnfhedmlifjlmaaApps
import Derived.Below
import Derived.BigQuiet
import Derived.OwnWalk
import Derived.Laws.AppendOwn
import Derived.Laws.AppendOwnNone
import Derived.WalkKit
import Derived.WalkLawsBesides
import Derived.WalkSpells
import Derived.ProofKit
import Derived.OpenShut
import Derived.Deep.RegionHeld3
import Derived.Deep.LoopGhost
import Derived.Laws.StructEq
import Derived.Lib.Builder
import Derived.Deep.DeepCutAuto
import Derived.Lib.SliceRun
import Derived.Laws.MakeOwn
namespace Go.Proofs.Ytnfhedmlifjlmaa
open Go.ChangeShapes Go.WideShapes Go.ChangeAt Go.RowKit Go.Lib
set_option linter.unusedVariables false
set_option linter.unusedSimpArgs false
set_option maxRecDepth 100000
set_option maxHeartbeats 4000000

theorem hide {P : Prop} (h : P) : Hid P := h

theorem info_u32 : (Try.prog.info? 27).map (fun i => (i.zero, i.size, i.bytes)) = some (some (.int .u32 0), 1, 4) := by kernel_rfl
theorem info_bool : (Try.prog.info? 4).map (fun i => (i.zero, i.size, i.bytes)) = some (some (.bool false), 1, 1) := by kernel_rfl
theorem info_han : (Try.prog.info? 29).map (fun i => (i.zero, i.size, i.bytes)) = some (some (.agg #[.int .u32 0, .int .u32 0]), 2, 8) := by kernel_rfl
theorem st_bel {W : World} (c : Array Value) (t : TypeId) : Bel W (W.alloc (.cells c t)) := bl_alloc (bl_refl W) c t

theorem info_I : (Try.prog.info? 3).map (fun i => (i.zero, i.size, i.bytes)) = some (some (.int .i64 0), 1, 8) := by kernel_rfl
theorem isNone_I (p : Nat) (w : World) (h : w.cell? ⟨p, 0, none⟩ = some (.pointer (some ⟨p, 0, none⟩))) : Calls Try.prog 20 #[.pointer (some ⟨p, 0, none⟩)] w fun e w' => e = .returned (.bool false) ∧ w' = w := by
  obtain ⟨j, hj⟩ := Option.isSome_iff_exists.1 (show (Try.prog.info? 54).isSome = true by kernel_rfl)
  have qn := fun w : World => run_neq_ptr_same (P := Try.prog) w ⟨p, 0, none⟩ Try.underlying23 hj
  go_enter Try.func20, Try.ntmps20
  go_wp2
  go_ret
  exact ⟨rfl, rfl⟩
theorem len_I (m : Sm) (s : Ss) (w : World) (h : Sto w m s) : Calls Try.prog 11 #[.pointer (some ⟨m.p, 0, none⟩)] w fun e w' => e = .returned (.int .i64 (s.ln : Int)) ∧ w' = w := by
  obtain ⟨p, su, cu, sl, cl, st, ct⟩ := m
  have c0 := h.c0
  have c5 := h.c5
  simp only at c0 c5 ⊢
  go_enter Try.func11, Try.ntmps11
  go_wp2_with (first | (go_at_call 20; (with_reducible refine (isNone_I _ _ c0).mono ?_); rintro e w1 ⟨rfl, hw1⟩; rw [hw1]; clear hw1))
  go_ret
  exact ⟨rfl, rfl⟩
theorem handle_I (m : Sm) (s : Ss) (w : World) (h : Sto w m s) (k u : Nat) (hu : s.U[k]? = some u) (hk : k ≤ 16384) : Calls Try.prog 22 #[.pointer (some ⟨m.p, 0, none⟩), .int .i64 (k : Int)] w fun e w' => e = .returned (.agg #[.int .u32 (k : Int), .int .u32 (u : Int)]) ∧ Bel w w' := by
  have hlt := lt_of_get hu
  obtain ⟨g, hg, _, _, hRw, _⟩ := h.ru.at (Nat.lt_of_le_of_lt (Nat.zero_le _) hlt)
  have x0 : w.cell? ⟨g, k, none⟩ = some (.int .u32 (u : Int)) := by
    have := hRw k (.int .u32 (u : Int)) (by rw [uRow_get, hu]; rfl)
    rwa [Nat.zero_add] at this
  have c2 := h.c2
  rw [hg] at c2
  obtain ⟨p, su, cu, sl, cl, st, ct⟩ := m
  simp only at c2 ⊢
  obtain ⟨n, hn⟩ : ∃ n, s.U.length = n := ⟨_, rfl⟩
  rw [hn] at c2 hlt
  clear hn hRw hg h
  have hz : (k : Int) < (n : Int) := by omega
  have ew : IntKind.wrap .u32 (k : Int) = (k : Int) := by rw [IntKind.wrap_u32]; omega
  have b0 := st_bel (W := w) #[.int .u32 0, .int .u32 0] 29
  replace c2 := keep b0 c2
  replace x0 := keep b0 x0
  go_enter Try.func22, Try.ntmps22
  go_wp2
  refine bodyPost_ret (v := .agg #[.int .u32 (k : Int), .int .u32 (u : Int)]) (by simp [results, Try.results22, go_sem] <;> (first | exact ⟨rfl, rfl⟩ | rfl)) rfl ⟨rfl, ?_⟩
  repeat (first | exact bl_refl _ | assumption | apply bl_drewN | apply bl_drew | apply bl_alloc | refine bl_set ?_ (by simp <;> omega) | refine bl_trans ?_ (by assumption))

theorem info_S : (Try.prog.info? 9).map (fun i => (i.zero, i.size, i.bytes)) = some (some (.string { data := #[] }), 1, 16) := by kernel_rfl
theorem isNone_S (p : Nat) (w : World) (h : w.cell? ⟨p, 0, none⟩ = some (.pointer (some ⟨p, 0, none⟩))) : Calls Try.prog 35 #[.pointer (some ⟨p, 0, none⟩)] w fun e w' => e = .returned (.bool false) ∧ w' = w := by
  obtain ⟨j, hj⟩ := Option.isSome_iff_exists.1 (show (Try.prog.info? 71).isSome = true by kernel_rfl)
  have qn := fun w : World => run_neq_ptr_same (P := Try.prog) w ⟨p, 0, none⟩ Try.underlying47 hj
  go_enter Try.func35, Try.ntmps35
  go_wp2
  go_ret
  exact ⟨rfl, rfl⟩
theorem len_S (m : Sm) (s : Ss) (w : World) (h : Sto w m s) : Calls Try.prog 19 #[.pointer (some ⟨m.p, 0, none⟩)] w fun e w' => e = .returned (.int .i64 (s.ln : Int)) ∧ w' = w := by
  obtain ⟨p, su, cu, sl, cl, st, ct⟩ := m
  have c0 := h.c0
  have c5 := h.c5
  simp only at c0 c5 ⊢
  go_enter Try.func19, Try.ntmps19
  go_wp2_with (first | (go_at_call 35; (with_reducible refine (isNone_S _ _ c0).mono ?_); rintro e w1 ⟨rfl, hw1⟩; rw [hw1]; clear hw1))
  go_ret
  exact ⟨rfl, rfl⟩
theorem handle_S (m : Sm) (s : Ss) (w : World) (h : Sto w m s) (k u : Nat) (hu : s.U[k]? = some u) (hk : k ≤ 16384) : Calls Try.prog 37 #[.pointer (some ⟨m.p, 0, none⟩), .int .i64 (k : Int)] w fun e w' => e = .returned (.agg #[.int .u32 (k : Int), .int .u32 (u : Int)]) ∧ Bel w w' := by
  have hlt := lt_of_get hu
  obtain ⟨g, hg, _, _, hRw, _⟩ := h.ru.at (Nat.lt_of_le_of_lt (Nat.zero_le _) hlt)
  have x0 : w.cell? ⟨g, k, none⟩ = some (.int .u32 (u : Int)) := by
    have := hRw k (.int .u32 (u : Int)) (by rw [uRow_get, hu]; rfl)
    rwa [Nat.zero_add] at this
  have c2 := h.c2
  rw [hg] at c2
  obtain ⟨p, su, cu, sl, cl, st, ct⟩ := m
  simp only at c2 ⊢
  obtain ⟨n, hn⟩ : ∃ n, s.U.length = n := ⟨_, rfl⟩
  rw [hn] at c2 hlt
  clear hn hRw hg h
  have hz : (k : Int) < (n : Int) := by omega
  have ew : IntKind.wrap .u32 (k : Int) = (k : Int) := by rw [IntKind.wrap_u32]; omega
  have b0 := st_bel (W := w) #[.int .u32 0, .int .u32 0] 29
  replace c2 := keep b0 c2
  replace x0 := keep b0 x0
  go_enter Try.func37, Try.ntmps37
  go_wp2
  refine bodyPost_ret (v := .agg #[.int .u32 (k : Int), .int .u32 (u : Int)]) (by simp [results, Try.results37, go_sem] <;> (first | exact ⟨rfl, rfl⟩ | rfl)) rfl ⟨rfl, ?_⟩
  repeat (first | exact bl_refl _ | assumption | apply bl_drewN | apply bl_drew | apply bl_alloc | refine bl_set ?_ (by simp <;> omega) | refine bl_trans ?_ (by assumption))

end Go.Proofs.Ytnfhedmlifjlmaa
