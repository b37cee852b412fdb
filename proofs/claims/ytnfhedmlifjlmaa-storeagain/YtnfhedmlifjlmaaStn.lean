/-
  Plain facts on floats, more: rounding to the nearest rung, sums and products of finite floats, signs turned. No program is named here.
-/
import Derived.Test.YtnfhedmlifjlmaaStm
namespace Go.Proofs.Ytnfhedmlifjlmaa
open Ieee Go.RowKit
set_option linter.unusedSimpArgs false
set_option linter.unusedVariables false

/-! ### What there is, with its numbers -/
def vI : Value → Int
  | .int _ x => x
  | _ => 0
def enE (s : Ss) : Nat → List El
  | 0 => []
  | k + 1 => enE s k ++ (if s.L[k]? = some true then [((k, s.U.getD k 0), vI (s.T.getD k undef))] else [])
theorem enE_H (s : Ss) : ∀ k, (enE s k).map (·.1) = heH s k
  | 0 => rfl
  | k + 1 => by
    unfold enE heH
    rw [List.map_append, enE_H s k]
    split <;> rfl
theorem enE_T (s : Ss) (hl : s.T.length = s.L.length) (ty : ∀ v ∈ s.T, ∃ x, v = .int .i64 x) : ∀ k, xRow ((enE s k).map (·.2)) = heT s k
  | 0 => rfl
  | k + 1 => by
    unfold enE heT
    rw [List.map_append, xRow_app, enE_T s hl ty k]
    split
    · rename_i h
      obtain ⟨v, hv⟩ := get_of_lt (l := s.T) (i := k) (by have := lt_of_get h; omega)
      obtain ⟨x, rfl⟩ := ty v (List.mem_of_getElem? hv)
      have e : s.T.getD k undef = .int .i64 x := by rw [List.getD_eq_getElem?_getD, hv]; rfl
      rw [e]
      rfl
    · rfl
theorem enE_mem (s : Ss) (hl : s.T.length = s.L.length) (ty : ∀ v ∈ s.T, ∃ x, v = .int .i64 x) : ∀ k, ∀ x ∈ enE s k, x.1.1 < k ∧ s.L[x.1.1]? = some true ∧ s.T[x.1.1]? = some (.int .i64 x.2)
  | 0, x, hx => by cases hx
  | k + 1, x, hx => by
    unfold enE at hx
    rcases List.mem_append.1 hx with hx | hx
    · obtain ⟨h1, h2⟩ := enE_mem s hl ty k x hx
      exact ⟨by omega, h2⟩
    · split at hx
      · rename_i h
        obtain ⟨v, hv⟩ := get_of_lt (l := s.T) (i := k) (by have := lt_of_get h; omega)
        obtain ⟨y, rfl⟩ := ty v (List.mem_of_getElem? hv)
        have e : s.T.getD k undef = .int .i64 y := by rw [List.getD_eq_getElem?_getD, hv]; rfl
        rw [e] at hx
        simp only [List.mem_cons, List.not_mem_nil, or_false] at hx
        subst hx
        exact ⟨by simp, h, hv⟩
      · cases hx
theorem enE_all (s : Ss) : ∀ k i, i < k → s.L[i]? = some true → ∃ x ∈ enE s k, x.1.1 = i
  | 0, i, hi, _ => absurd hi (Nat.not_lt_zero _)
  | k + 1, i, hi, h => by
    unfold enE
    rcases Nat.lt_or_ge i k with h' | h'
    · obtain ⟨x, hx, e⟩ := enE_all s k i h' h
      exact ⟨x, List.mem_append_left _ hx, e⟩
    · have e : i = k := by omega
      subst e
      rw [if_pos h]
      exact ⟨_, List.mem_append_right _ (List.mem_singleton.2 rfl), rfl⟩
theorem enE_lt (s : Ss) : ∀ k, ∀ x ∈ enE s k, x.1.1 < k
  | 0, x, hx => by cases hx
  | k + 1, x, hx => by
    unfold enE at hx
    rcases List.mem_append.1 hx with hx | hx
    · have := enE_lt s k x hx; omega
    · split at hx
      · simp only [List.mem_cons, List.not_mem_nil, or_false] at hx; subst hx; simp
      · cases hx
theorem enE_use (s : Ss) : ∀ k, ∀ x ∈ enE s k, x.1.2 = s.U.getD x.1.1 0
  | 0, x, hx => by cases hx
  | k + 1, x, hx => by
    unfold enE at hx
    rcases List.mem_append.1 hx with hx | hx
    · exact enE_use s k x hx
    · split at hx
      · simp only [List.mem_cons, List.not_mem_nil, or_false] at hx; subst hx; rfl
      · cases hx
theorem getD_le {U : List Nat} (h : ∀ u ∈ U, u ≤ 4294967295) (i : Nat) : U.getD i 0 ≤ 4294967295 := by
  rw [List.getD_eq_getElem?_getD]
  cases e : U[i]? with
  | none => simp
  | some u => exact h u (List.mem_of_getElem? e)
theorem enE_nodup (s : Ss) : ∀ k, ((enE s k).map (·.1.1)).Nodup
  | 0 => List.nodup_nil
  | k + 1 => by
    unfold enE
    rw [List.map_append, List.nodup_append]
    refine ⟨enE_nodup s k, by split <;> simp, fun a ha b hb e => ?_⟩
    obtain ⟨x, hx, rfl⟩ := List.mem_map.1 ha
    have h1 := enE_lt s k x hx
    split at hb
    · simp at hb; omega
    · cases hb
theorem enE_len (s : Ss) : ∀ k, k ≤ s.L.length → (enE s k).length = (s.L.take k).count true
  | 0, _ => rfl
  | k + 1, hk => by
    unfold enE
    obtain ⟨b, hb⟩ := get_of_lt (l := s.L) (i := k) (by omega)
    rw [List.length_append, enE_len s k (by omega), List.take_add_one, hb, List.count_append]
    cases b <;> simp
theorem heH_le (s : Ss) (k : Nat) : (enE s k).length ≤ k := by
  have h := heH_len s k
  rw [← enE_H, List.length_map] at h
  exact h
end Go.Proofs.Ytnfhedmlifjlmaa
