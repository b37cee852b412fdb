/-
  What each function of package store answers, and what its memory holds afterwards: one contract a function; of the memory that was there only the store's own blocks have turned.
-/
import Derived.Test.YtnfhedmlifjlmaaChecked
import Derived.Test.YtnfhedmlifjlmaaSu
import Derived.Test.YtnfhedmlifjlmaaSx
import Derived.Test.YtnfhedmlifjlmaaSz
import Derived.Test.YtnfhedmlifjlmaaStl
import Derived.RangeFuncNested
import Derived.RangeFuncBound
import Derived.RangeFuncCalls
import Derived.RangeFuncLeaves
import Derived.Shelf.Abstract
import Derived.Shelf.RegionOpen
import Derived.OwnWalkIn
import Derived.TacticsInMore
import Derived.LoopNIn
import Derived.LoopIn
import Derived.Maps.OwnIn
import Derived.Sort.LoopGhostIn
import Derived.BigRegionIn
import Derived.Stop.RegionWithIn
import Derived.Below
import Derived.BigQuiet
import Derived.OwnWalk
import Derived.Laws.AppendOwn
import Derived.Laws.AppendOwnNone
import Derived.WalkKit
import Derived.WalkLawsBesides
import Derived.WalkSpells
import Derived.ProofKit
import Derived.OpenShut
import Derived.Deep.RegionHeld3
import Derived.Deep.LoopGhost
import Derived.Laws.StructEq
import Derived.Lib.Builder
import Derived.Deep.DeepCutAuto
import Derived.Lib.SliceRun
import Derived.Laws.MakeOwn
namespace Go.Proofs.Ytnfhedmlifjlmaa
open Go.ChangeShapes Go.WideShapes Go.ChangeAt Go.RowKit Go.Lib
set_option linter.unusedVariables false
set_option linter.unusedSimpArgs false
set_option maxRecDepth 100000
set_option maxHeartbeats 4000000


theorem slots_nilI (m : Sm) (s : Ss) (w : World) (h : Sto w m s) (hU : s.U = []) (hL : s.L = []) (hm : m.su = none ∧ m.cu = 0 ∧ m.sl = none ∧ m.cl = 0) {p : Nat} (hp : m.p = p) : Calls Try.prog 14 #[.pointer (some ⟨p, 0, none⟩)] w fun e w' => e = .returned (.tuple #[.slice none 0 0, .slice none 0 0]) ∧ Bel w w' := by
  have c0 := h.c0
  have c2 := h.c2
  have c3 := h.c3
  rw [hm.1, hm.2.1, hU] at c2
  rw [hm.2.2.1, hm.2.2.2, hL] at c3
  rw [hp] at c0 c2 c3
  simp only [List.length_nil] at c2 c3
  clear h hm hp hU hL
  go_enter Try.func14, Try.ntmps14
  go_upto_region 3 with (first | (go_at_call 20; (with_reducible refine (isNone_I _ _ c0).mono ?_); rintro e w1 ⟨rfl, hw1⟩; rw [hw1]; clear hw1))
  go_quiet (first | (go_at_call 25; exact Calls.quiet_of_same (clone_uI _)) | (go_at_call 26; exact Calls.quiet_of_same (clone_bI _)))
  go_wp2
  refine bodyPost_ret (v := .tuple #[.slice none 0 0, .slice none 0 0]) (by simp [results, Try.results14, go_sem]) rfl ?_
  exact ⟨rfl, by repeat (first | exact bl_refl _ | apply bl_drewN | apply bl_drew)⟩

theorem clone_0I (g : Nat) (w : World) : Calls Try.prog 27 #[.slice (some ⟨g, 0, none⟩) 0 0] w fun e w' => e = .returned (.slice (some ⟨w.heap.size, 0, none⟩) 0 0) ∧ w' = w.alloc (.cells #[] 3) := by
  have qs := fun w : World => run_eql_slice_nil (P := Try.prog) w 35 3 (some ⟨g, 0, none⟩) 0 0 0 0 Try.underlying35
  go_enter Try.func27, Try.ntmps27
  go_wp2
  go_ret
  exact ⟨rfl, rfl⟩

theorem make_int (n : Nat) (hn : n ≤ 16384) (W : World) : (Instr.makeSlice 35 (.int .i64 n) (.int .i64 n)).run Try.prog W = .ok (.slice (some ⟨W.heap.size, 0, none⟩) n n) (W.alloc (.cells (Array.replicate n (.int .i64 0)) 3)) := by
  have h := run_make (P := Try.prog) W 35 3 Try.t3 (.int .i64 0) Try.underlying35 (by kernel_rfl) (by kernel_rfl) .i64 .i64 n n (by omega) (by omega) (by show ((8 : Nat) : Int) * n ≤ _; omega) (by omega)
  have e : madeCells (Value.int .i64 0).cells (n * 1) = Array.replicate n (.int .i64 0) := by
    apply Array.ext
    · simp [madeCells]
    · intro i h1 h2
      simp [madeCells, Value.cells, Nat.mod_one]
  rw [← e]
  exact h

theorem open_0I (g ct : Nat) (w : World) : Calls Try.prog 9 #[.int .i64 40, .slice none 0 0, .slice none 0 0, .slice (some ⟨g, 0, none⟩) 0 0] w fun e w' => ∃ m : Sm, e = .returned (.tuple #[.pointer (some ⟨m.p, 0, none⟩), .int .i64 0]) ∧ (∀ k ∈ m.F, w.heap.size ≤ k) ∧ m.su = none ∧ m.cu = 0 ∧ m.sl = none ∧ m.cl = 0 ∧ Sto w' m ⟨40, 0, 0, [], [], []⟩ ∧ Bel w w' := by
  have b0 := st_bel (W := w) #[] 3
  have b1 := bl_alloc b0 #[.pointer (some ⟨(w.heap.size + 1), 0, none⟩), .int .i64 40, .slice none 0 0, .slice none 0 0, .slice (some ⟨w.heap.size, 0, none⟩) 0 0, .int .i64 0, .int .i64 0] 54
  have e1 : (w.alloc (.cells #[] 3)).heap.size = w.heap.size + 1 := by simp only [World.size_alloc]
  have x : ∀ o v, #[.pointer (some ⟨(w.heap.size + 1), 0, none⟩), .int .i64 40, .slice none 0 0, .slice none 0 0, .slice (some ⟨w.heap.size, 0, none⟩) 0 0, .int .i64 0, .int .i64 0][o]? = some v → ((w.alloc (.cells #[] 3)).alloc (.cells #[.pointer (some ⟨(w.heap.size + 1), 0, none⟩), .int .i64 40, .slice none 0 0, .slice none 0 0, .slice (some ⟨w.heap.size, 0, none⟩) 0 0, .int .i64 0, .int .i64 0] 54)).cell? ⟨w.heap.size + 1, o, none⟩ = some v := fun o v h => by
    rw [← e1, World.cell?_alloc_new, e1]; exact h
  have f0 : ∀ o, ((w.alloc (.cells #[] 3)).alloc (.cells #[.pointer (some ⟨(w.heap.size + 1), 0, none⟩), .int .i64 40, .slice none 0 0, .slice none 0 0, .slice (some ⟨w.heap.size, 0, none⟩) 0 0, .int .i64 0, .int .i64 0] 54)).frozen? ⟨w.heap.size, o, none⟩ = false := fun o => (b1.2 _).trans (fr_frozen (Nat.le_refl _))
  have f1 : ∀ o, ((w.alloc (.cells #[] 3)).alloc (.cells #[.pointer (some ⟨(w.heap.size + 1), 0, none⟩), .int .i64 40, .slice none 0 0, .slice none 0 0, .slice (some ⟨w.heap.size, 0, none⟩) 0 0, .int .i64 0, .int .i64 0] 54)).frozen? ⟨w.heap.size + 1, o, none⟩ = false := fun o => (b1.2 _).trans (fr_frozen (Nat.le_succ _))
  have hS := hide (show Sto ((w.alloc (.cells #[] 3)).alloc (.cells #[.pointer (some ⟨(w.heap.size + 1), 0, none⟩), .int .i64 40, .slice none 0 0, .slice none 0 0, .slice (some ⟨w.heap.size, 0, none⟩) 0 0, .int .i64 0, .int .i64 0] 54)) ⟨w.heap.size + 1, none, 0, none, 0, some ⟨w.heap.size, 0, none⟩, 0⟩ ⟨40, 0, 0, [], [], []⟩ from ⟨x 0 _ rfl, x 1 _ rfl, x 2 _ rfl, x 3 _ rfl, x 4 _ rfl, x 5 _ rfl, x 6 _ rfl, f1, Ro.nil _ _, Ro.nil _ _,
    ⟨⟨rfl, .inr ⟨w.heap.size, 0, rfl, Nat.zero_le _, Nat.le_refl _, by unfold maxLen; decide, (fun j u hj => by simp at hj), (fun j hj => absurd hj (Nat.not_lt_zero _)), f0⟩⟩, fun k hk => by simp [ob] at hk; simp only [World.size_alloc]; omega⟩, by simp [ob], by simp [ob], by simp [ob], (fun k hk => by cases hk), (fun k hk => by cases hk)⟩)
  replace b1 := hide b1
  clear x f0 f1 e1 b0
  go_enter Try.func9, Try.ntmps9
  go_wp2_with (first | (go_at_call 24; (with_reducible refine (unused_nilI _).mono ?_); rintro e w1 ⟨rfl, hw1⟩; rw [hw1]; clear hw1) | (go_at_call 25; (with_reducible refine (clone_uI _).mono ?_); rintro e w1 ⟨rfl, hw1⟩; rw [hw1]; clear hw1) | (go_at_call 26; (with_reducible refine (clone_bI _).mono ?_); rintro e w1 ⟨rfl, hw1⟩; rw [hw1]; clear hw1) | (go_at_call 27; (with_reducible refine (clone_0I g _).mono ?_); rintro e w1 ⟨rfl, hw1⟩; rw [hw1]; clear hw1))
  obtain ⟨W, hW⟩ : ∃ x, x = (w.alloc (.cells #[] 3)).alloc (.cells #[.pointer (some ⟨(w.heap.size + 1), 0, none⟩), .int .i64 40, .slice none 0 0, .slice none 0 0, .slice (some ⟨w.heap.size, 0, none⟩) 0 0, .int .i64 0, .int .i64 0] 54) := ⟨_, rfl⟩
  rw [← hW] at hS b1 ⊢
  clear hW
  go_loopg [57] 0 (fun kx s57 wr => s57 = .int .i64 0 ∧ wr = W)
  case atStart => exact ⟨rfl, rfl⟩
  case round =>
    obtain ⟨rfl, hwr⟩ := hrel
    rw [hwr]
    clear hwr
    go_wp2
    refine bodyPost_ret (v := .tuple #[.pointer (some ⟨(w.heap.size + 1), 0, none⟩), .int .i64 0]) (by simp [results, Try.results9, go_sem]) rfl ?_
    exact ⟨⟨w.heap.size + 1, none, 0, none, 0, some ⟨w.heap.size, 0, none⟩, 0⟩, rfl, (fun k hk => by simp [Sm.F, ob] at hk; omega), rfl, rfl, rfl, rfl, hS.out, b1.out⟩

theorem all_stops0 (nn : Nat) (c : Nat) (sh sx : Option Addr) (ch cx : Nat) (Fs : List Nat) (w : World) (hc : w.cell? ⟨c, 0, none⟩ = some (.slice sh 0 ch)) (hd : w.cell? ⟨c + 1, 0, none⟩ = some (.slice sx 0 cx)) :
    SeqStopsK (α := (Nat × Nat) × Int) Fence.wide nn Try.prog 33 #[.pointer (some ⟨c, 0, none⟩), .pointer (some ⟨(c + 1), 0, none⟩)] enc2 (KpL Fs) (fun xs => xs = []) (fun _ => True) 0 w := by
  intro l J Jx W hb hJ hJx hY h0
  have hcl := World.block_lt_of_cell? _ _ hc
  have hdl := World.block_lt_of_cell? _ _ hd
  have c0 := (hb.cell hcl).trans hc
  have d0 := (hb.cell hdl).trans hd
  refine callsIn_of_wp Try.func33 rfl trivial ?_ rfl
  simp only [Try.ntmps33, List.size_toArray, List.length_cons, List.length_nil, Nat.reduceAdd, Nat.reduceSub, Array.replicate_succ, Array.replicate_zero, List.push_toArray, List.append_toArray, List.nil_append, List.cons_append]
  gi_wp2
  gi_loopw [8] (fun s8 wr => s8 = .int .i64 0 ∧ Hid (J [] wr)) (fun s8 _ => 0)
  case atStart => exact ⟨rfl, h0⟩
  case round =>
    obtain ⟨rfl, hJk⟩ := hrel
    gi_wp2
    go_end0
    have hJn := hJk.out
    exact ⟨⟨_, rfl⟩, .inl (by first | exact ⟨_, rfl, hJn⟩ | exact hJn)⟩
theorem all_stopsA (nn : Nat) (c n : Nat) (sh sx : Option Addr) (ch cx : Nat) (E : List ((Nat × Nat) × Int)) (w : World) (hE : E.length = n) (hn : n ≤ 16384) (hc : w.cell? ⟨c, 0, none⟩ = some (.slice sh n ch)) (hd : w.cell? ⟨c + 1, 0, none⟩ = some (.slice sx n cx)) (hH : Ro 2 w sh n ch (hRow (E.map (·.1)))) (hX : Ro 1 w sx n cx (xRow (E.map (·.2)))) :
    SeqStopsK (α := (Nat × Nat) × Int) Fence.wide nn Try.prog 33 #[.pointer (some ⟨c, 0, none⟩), .pointer (some ⟨(c + 1), 0, none⟩)] enc2 (KpL (c :: (c + 1) :: (ob sh ++ ob sx))) (fun xs => xs = E) (fun _ => True) n w := by
  rcases Nat.eq_zero_or_pos n with h0 | h0
  · subst h0
    obtain rfl := List.length_eq_zero_iff.1 hE
    exact all_stops0 nn c sh sx ch cx _ w hc hd
  · obtain ⟨gh, rfl, _, _, hRh, _, _, hgh⟩ := hH.at h0
    obtain ⟨gx, rfl, _, _, hRx, _, _, hgx⟩ := hX.at h0
    exact all_stopsI nn c n gh gx ch cx E w hE hn hc hd hRh hRx hgh hgx

end Go.Proofs.Ytnfhedmlifjlmaa
