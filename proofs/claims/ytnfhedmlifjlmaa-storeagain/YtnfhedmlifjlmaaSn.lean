/-
  What each function of package store answers, and what its memory holds afterwards: one contract a function; of the memory that was there only the store's own blocks have turned.
-/
import Derived.Test.YtnfhedmlifjlmaaChecked
import Derived.Test.YtnfhedmlifjlmaaSa
import Derived.Below
import Derived.BigQuiet
import Derived.OwnWalk
import Derived.Laws.AppendOwn
import Derived.Laws.AppendOwnNone
import Derived.WalkKit
import Derived.WalkLawsBesides
import Derived.WalkSpells
import Derived.ProofKit
import Derived.OpenShut
import Derived.Deep.RegionHeld3
import Derived.Deep.LoopGhost
import Derived.Laws.StructEq
import Derived.Lib.Builder
import Derived.Deep.DeepCutAuto
import Derived.Lib.SliceRun
import Derived.Laws.MakeOwn
namespace Go.Proofs.Ytnfhedmlifjlmaa
open Go.ChangeShapes Go.WideShapes Go.ChangeAt Go.RowKit Go.Lib
set_option linter.unusedVariables false
set_option linter.unusedSimpArgs false
set_option maxRecDepth 100000
set_option maxHeartbeats 4000000


theorem cloned_uI (g o n cap : Nat) (R : List Value) (w : World) (hR : Rw w g o R) (hl : R.length = n) (h1 : ∀ u ∈ R, u.oneCell' = true) (hn : 0 < n) (hn2 : n ≤ 16384) : Calls Try.prog 25 #[.slice (some ⟨g, o, none⟩) n cap] w fun e w' => ∃ sa cp, e = .returned (.slice sa n cp) ∧ Ro 1 w' sa n cp R ∧ (∀ k ∈ ob sa, w.heap.size ≤ k) ∧ Below w.heap.size w w' := by
  have qs := fun w : World => run_eql_slice_nil (P := Try.prog) w 33 27 (some ⟨g, o, none⟩) n cap 0 0 Try.underlying33
  have b0 := st_bel (W := w) #[] 27
  have hE : Ro 1 (w.alloc (.cells #[] 27)) (some ⟨w.heap.size, 0, none⟩) 0 0 [] := ⟨ownR_empty 1 0 w 27 (Nat.zero_le _), fun k hk => by simp only [ob, List.mem_cons, List.not_mem_nil, or_false] at hk; subst hk; simp⟩
  obtain ⟨sa, cp, w', hrun, hRo, hf⟩ := Ro.app (P := Try.prog) 33 33 27 Try.underlying33 info_u32 rfl (by decide) g o n cap hE (by omega) (hR.bel b0) h1 hn (by unfold maxLen; omega) (by omega)
  simp only [Nat.zero_add, List.nil_append] at hrun hRo
  go_enter Try.func25, Try.ntmps25
  go_wp2_with (first | (at_builtin; refine wpList_run 33 (.tmp 5) (.tmp 6) rfl rfl rfl rfl hrun ?_))
  go_ret
  refine ⟨sa, cp, rfl, hRo, fun k hk => ?_, b0.1.trans (hf.below b0.size (fun k hk => ?_))⟩
  · rcases hf.grown k hk with h | h
    · simp only [ob, List.mem_cons, List.not_mem_nil, or_false] at h
      omega
    · have := b0.size
      omega
  · simp only [ob, List.mem_cons, List.not_mem_nil, or_false] at hk
    omega

theorem cloned_bI (g o n cap : Nat) (R : List Value) (w : World) (hR : Rw w g o R) (hl : R.length = n) (h1 : ∀ u ∈ R, u.oneCell' = true) (hn : 0 < n) (hn2 : n ≤ 16384) : Calls Try.prog 26 #[.slice (some ⟨g, o, none⟩) n cap] w fun e w' => ∃ sa cp, e = .returned (.slice sa n cp) ∧ Ro 1 w' sa n cp R ∧ (∀ k ∈ ob sa, w.heap.size ≤ k) ∧ Below w.heap.size w w' := by
  have qs := fun w : World => run_eql_slice_nil (P := Try.prog) w 34 4 (some ⟨g, o, none⟩) n cap 0 0 Try.underlying34
  have b0 := st_bel (W := w) #[] 4
  have hE : Ro 1 (w.alloc (.cells #[] 4)) (some ⟨w.heap.size, 0, none⟩) 0 0 [] := ⟨ownR_empty 1 0 w 4 (Nat.zero_le _), fun k hk => by simp only [ob, List.mem_cons, List.not_mem_nil, or_false] at hk; subst hk; simp⟩
  obtain ⟨sa, cp, w', hrun, hRo, hf⟩ := Ro.app (P := Try.prog) 34 34 4 Try.underlying34 info_bool rfl (by decide) g o n cap hE (by omega) (hR.bel b0) h1 hn (by unfold maxLen; omega) (by omega)
  simp only [Nat.zero_add, List.nil_append] at hrun hRo
  go_enter Try.func26, Try.ntmps26
  go_wp2_with (first | (at_builtin; refine wpList_run 34 (.tmp 5) (.tmp 6) rfl rfl rfl rfl hrun ?_))
  go_ret
  refine ⟨sa, cp, rfl, hRo, fun k hk => ?_, b0.1.trans (hf.below b0.size (fun k hk => ?_))⟩
  · rcases hf.grown k hk with h | h
    · simp only [ob, List.mem_cons, List.not_mem_nil, or_false] at h
      omega
    · have := b0.size
      omega
  · simp only [ob, List.mem_cons, List.not_mem_nil, or_false] at hk
    omega

theorem cloned_tI (g o n cap : Nat) (R : List Value) (w : World) (hR : Rw w g o R) (hl : R.length = n) (h1 : ∀ u ∈ R, u.oneCell' = true) (hn : 0 < n) (hn2 : n ≤ 16384) : Calls Try.prog 27 #[.slice (some ⟨g, o, none⟩) n cap] w fun e w' => ∃ sa cp, e = .returned (.slice sa n cp) ∧ Ro 1 w' sa n cp R ∧ (∀ k ∈ ob sa, w.heap.size ≤ k) ∧ Below w.heap.size w w' := by
  have qs := fun w : World => run_eql_slice_nil (P := Try.prog) w 35 3 (some ⟨g, o, none⟩) n cap 0 0 Try.underlying35
  have b0 := st_bel (W := w) #[] 3
  have hE : Ro 1 (w.alloc (.cells #[] 3)) (some ⟨w.heap.size, 0, none⟩) 0 0 [] := ⟨ownR_empty 1 0 w 3 (Nat.zero_le _), fun k hk => by simp only [ob, List.mem_cons, List.not_mem_nil, or_false] at hk; subst hk; simp⟩
  obtain ⟨sa, cp, w', hrun, hRo, hf⟩ := Ro.app (P := Try.prog) 35 35 3 Try.underlying35 info_I rfl (by decide) g o n cap hE (by omega) (hR.bel b0) h1 hn (by unfold maxLen; omega) (by omega)
  simp only [Nat.zero_add, List.nil_append] at hrun hRo
  go_enter Try.func27, Try.ntmps27
  go_wp2_with (first | (at_builtin; refine wpList_run 35 (.tmp 5) (.tmp 6) rfl rfl rfl rfl hrun ?_))
  go_ret
  refine ⟨sa, cp, rfl, hRo, fun k hk => ?_, b0.1.trans (hf.below b0.size (fun k hk => ?_))⟩
  · rcases hf.grown k hk with h | h
    · simp only [ob, List.mem_cons, List.not_mem_nil, or_false] at h
      omega
    · have := b0.size
      omega
  · simp only [ob, List.mem_cons, List.not_mem_nil, or_false] at hk
    omega

theorem unused_s (gu ou gl ol n cu cl : Nat) (U : List Nat) (L : List Bool) (w : World) (hU : Rw w gu ou (uRow U)) (hL : Rw w gl ol (lRow L)) (hu : U.length = n) (hl : L.length = n) (hn2 : n ≤ 16384) (hno : ∀ i : Nat, L[i]? = some true → U[i]? ≠ some 0) : Calls Try.prog 24 #[.slice (some ⟨gu, ou, none⟩) n cu, .slice (some ⟨gl, ol, none⟩) n cl] w fun e w' => e = .returned (.bool false) ∧ w' = w := by
  go_enter Try.func24, Try.ntmps24
  go_wp2
  go_loopg [9] n (fun kx s9 wr => ∃ k : Nat, s9 = .int .i64 (k : Int) ∧ k ≤ n ∧ n - k ≤ kx ∧ wr = w)
  case atStart => exact ⟨0, rfl, Nat.zero_le _, Nat.le_refl _, rfl⟩
  case round =>
    obtain ⟨k, rfl, hk, hkx, hwr⟩ := hrel
    rw [hwr]
    clear hwr
    by_cases hlt : k < n
    · have hz : (k : Int) < (n : Int) := by omega
      have ewk : IntKind.wrap .i64 ((k : Int) + 1) = (k : Int) + 1 := by rw [IntKind.wrap_i64]; omega
      obtain ⟨u, hu1⟩ := get_of_lt (l := U) (i := k) (by omega)
      obtain ⟨b, hb1⟩ := get_of_lt (l := L) (i := k) (by omega)
      have yu := hU k (.int .u32 (u : Int)) (by rw [uRow_get, hu1]; rfl)
      have yl := hL k (.bool b) (by rw [lRow_get, hb1]; rfl)
      cases b with
      | true =>
        have hne : ¬ (u : Int) = 0 := fun e => hno k hb1 (by rw [hu1]; congr 1; omega)
        have hne2 : ((u : Int) == 0) = false := by simpa using hne
        clear hu1 hb1
        go_wp2
        go_roundg (n - (k + 1))
        case measure => omega
        case rel => exact ⟨k + 1, by go_num, by omega, Nat.le_refl _, rfl⟩
      | false =>
        clear hu1 hb1
        go_wp2
        go_roundg (n - (k + 1))
        case measure => omega
        case rel => exact ⟨k + 1, by go_num, by omega, Nat.le_refl _, rfl⟩
    · have hz : ¬ (k : Int) < (n : Int) := by omega
      go_wp2
      go_ret
      exact ⟨rfl, rfl⟩
def clrT (L : List Bool) (T : List Value) (z : Value) : Nat → List Value
  | 0 => T
  | k + 1 => if L[k]? = some true then clrT L T z k else (clrT L T z k).set k z
theorem clrT_len (L : List Bool) (T : List Value) (z : Value) : ∀ k, (clrT L T z k).length = T.length
  | 0 => rfl
  | k + 1 => by
    unfold clrT
    split
    · exact clrT_len L T z k
    · rw [List.length_set]; exact clrT_len L T z k
theorem clrT_get (L : List Bool) (T : List Value) (z : Value) : ∀ k i : Nat, i < T.length → (clrT L T z k)[i]? = if i < k ∧ L[i]? ≠ some true then some z else T[i]?
  | 0, i, _ => by rw [if_neg (by omega)]; rfl
  | k + 1, i, hi => by
    have ih := clrT_get L T z k i hi
    unfold clrT
    by_cases hL : L[k]? = some true
    · rw [if_pos hL, ih]
      by_cases e : i = k
      · subst e; rw [if_neg (fun h => Nat.lt_irrefl _ h.1), if_neg (fun h => h.2 hL)]
      · by_cases h : i < k ∧ L[i]? ≠ some true
        · rw [if_pos h, if_pos ⟨by omega, h.2⟩]
        · rw [if_neg h, if_neg (fun h' => h ⟨by omega, h'.2⟩)]
    · rw [if_neg hL]
      by_cases e : k = i
      · subst e
        rw [List.getElem?_set_self (by rw [clrT_len]; exact hi), if_pos ⟨by omega, hL⟩]
      · rw [List.getElem?_set_ne e, ih]
        by_cases h : i < k ∧ L[i]? ≠ some true
        · rw [if_pos h, if_pos ⟨by omega, h.2⟩]
        · rw [if_neg h, if_neg (fun h' => h ⟨by omega, h'.2⟩)]

end Go.Proofs.Ytnfhedmlifjlmaa
