/-
  What each function of package sweep answers, and what the reference of its chapter answers: one contract a function, for every list of boxes; of the memory that was there nothing has turned.
-/
import Derived.Test.YtgcklheijcfneaaSwal
import Derived.Below
import Derived.BigQuiet
import Derived.OwnWalk
import Derived.Laws.AppendOwn
import Derived.Laws.AppendOwnNone
import Derived.WalkKit
import Derived.WalkLawsBesides
import Derived.WalkSpells
import Derived.ProofKit
import Derived.OpenShut
import Derived.Deep.RegionHeld3
import Derived.Deep.LoopGhost
namespace Go.Proofs.Ytgcklheijcfneaa
open Go.ChangeShapes Go.WideShapes Go.ChangeAt Go.RowKit Go.Shelf Go.Lib Go.Sort
set_option linter.unusedVariables false
set_option linter.unusedSimpArgs false


set_option maxRecDepth 100000 in
set_option maxHeartbeats 4000000 in
theorem meet13_s (a y : Bo) (w : World) : Calls Try.prog 14 #[.agg #[.float .f64 a.1, .float .f64 a.2.1, .float .f64 a.2.2.1, .float .f64 a.2.2.2], .agg #[.float .f64 y.1, .float .f64 y.2.1, .float .f64 y.2.2.1, .float .f64 y.2.2.2]] w fun e w' => e = .returned (.bool (meO a y)) ∧ Bel w w' := by
  obtain ⟨W1, hW1⟩ : ∃ W1, W1 = w.alloc (.cells #[.float .f64 a.1, .float .f64 a.2.1, .float .f64 a.2.2.1, .float .f64 a.2.2.2] 27) := ⟨_, rfl⟩
  have hka : Bk W1 w.heap.size a := by
    rw [hW1]
    exact ⟨by rw [World.cell?_alloc_new]; rfl, by rw [World.cell?_alloc_new]; rfl, by rw [World.cell?_alloc_new]; rfl, by rw [World.cell?_alloc_new]; rfl⟩
  have hs1 : W1.heap.size = w.heap.size + 1 := by rw [hW1]; exact World.size_alloc _ _
  have hky : Bk (W1.alloc (.cells #[.float .f64 y.1, .float .f64 y.2.1, .float .f64 y.2.2.1, .float .f64 y.2.2.2] 27)) (w.heap.size + 1) y := by
    rw [← hs1]
    exact ⟨by rw [World.cell?_alloc_new]; rfl, by rw [World.cell?_alloc_new]; rfl, by rw [World.cell?_alloc_new]; rfl, by rw [World.cell?_alloc_new]; rfl⟩
  replace hka := hka.bel (bl_alloc (bl_refl W1) #[.float .f64 y.1, .float .f64 y.2.1, .float .f64 y.2.2.1, .float .f64 y.2.2.2] 27)
  have B0 : Bel w (W1.alloc (.cells #[.float .f64 y.1, .float .f64 y.2.1, .float .f64 y.2.2.1, .float .f64 y.2.2.2] 27)) := by rw [hW1]; exact bl_alloc (bl_alloc (bl_refl _) _ _) _ _
  rw [hW1] at hka hky B0
  clear hW1 hs1
  obtain ⟨a0, a1, a2, a3⟩ := hka
  obtain ⟨y0, y1, y2, y3⟩ := hky
  have ca := chk_may a
  have cy := chk_may y
  have KP : ∀ {u u' : World} {q : Nat} {z : Bo}, Bel u u' → Bk u q z → Bk u' q z := fun h k => k.bel h
  go_enter Try.func14, Try.ntmps14
  unfold meO
  obtain ⟨ka, hka⟩ : ∃ k, chkN (bChk a.1 a.2.1 a.2.2.1 a.2.2.2) = k := ⟨_, rfl⟩
  obtain ⟨ky, hky⟩ : ∃ k, chkN (bChk y.1 y.2.1 y.2.2.1 y.2.2.2) = k := ⟨_, rfl⟩
  have kA : ∀ W, Calls Try.prog 15 #[.agg #[.float .f64 a.1, .float .f64 a.2.1, .float .f64 a.2.2.1, .float .f64 a.2.2.2]] W fun e w' => e = .returned (.int .i64 ka) ∧ Bel W w' := fun W => by rw [← hka]; exact xCheck_any _ _ _ _ W
  have kY : ∀ W, Calls Try.prog 15 #[.agg #[.float .f64 y.1, .float .f64 y.2.1, .float .f64 y.2.2.1, .float .f64 y.2.2.2]] W fun e w' => e = .returned (.int .i64 ky) ∧ Bel W w' := fun W => by rw [← hky]; exact xCheck_any _ _ _ _ W
  have kO : ∀ W, Calls Try.prog 32 #[.agg #[.float .f64 a.1, .float .f64 a.2.1, .float .f64 a.2.2.1, .float .f64 a.2.2.2], .agg #[.float .f64 y.1, .float .f64 y.2.1, .float .f64 y.2.2.1, .float .f64 y.2.2.2]] W fun e w' => e = .returned (.bool (ovO a y)) ∧ Bel W w' := fun W => xOver_any _ _ _ _ _ _ _ _ W
  rw [hka] at ca
  rw [hky] at cy
  clear hka hky
  generalize ovO a y = o at kO ⊢
  cases hm : mayO a with
  | false =>
    rw [hm] at ca
    go_wp2_with (first | (go_at_call 15; (with_reducible refine (kA _).mono ?_); rintro e w1 ⟨rfl, hb⟩))
    go_ret
    exact ⟨rfl, bl_trans B0 hb⟩
  | true =>
    rw [hm] at ca
    cases hy : mayO y with
    | false =>
      rw [hy] at cy
      go_wp2_with (first | (go_at_call 15; first | (have zn := mq; clear zn; (with_reducible refine (kY _).mono ?_); rintro e w2 ⟨rfl, hb2⟩) | ((with_reducible refine (kA _).mono ?_); rintro e w1 ⟨rfl, hb⟩; have mq := hide True.intro; replace y0 := keepB hb y0; replace y1 := keepB hb y1; replace y2 := keepB hb y2; replace y3 := keepB hb y3)))
      go_ret
      exact ⟨rfl, bl_trans (bl_trans B0 hb) hb2⟩
    | true =>
      rw [hy] at cy
      go_wp2_with (first | (go_at_call 15; first | (have zn := mq; clear zn; (with_reducible refine (kY _).mono ?_); rintro e w2 ⟨rfl, hb2⟩; replace y0 := keepB hb2 y0; replace y1 := keepB hb2 y1; replace y2 := keepB hb2 y2; replace y3 := keepB hb2 y3; replace a0 := keepB hb2 a0; replace a1 := keepB hb2 a1; replace a2 := keepB hb2 a2; replace a3 := keepB hb2 a3) | ((with_reducible refine (kA _).mono ?_); rintro e w1 ⟨rfl, hb⟩; have mq := hide True.intro; replace y0 := keepB hb y0; replace y1 := keepB hb y1; replace y2 := keepB hb y2; replace y3 := keepB hb y3; replace a0 := keepB hb a0; replace a1 := keepB hb a1; replace a2 := keepB hb a2; replace a3 := keepB hb a3)) | (go_at_call 32; (with_reducible refine (kO _).mono ?_); rintro e w3 ⟨rfl, hb3⟩))
      go_ret
      refine ⟨by first | rfl | simp, bl_trans (bl_trans (bl_trans B0 hb) hb2) hb3⟩

theorem rowB_le (B C : Nat → Bo) (p : Nat → Nat → Bool) (m i : Nat) : (rowB B C p m i).length ≤ m := by
  unfold rowB
  rw [List.length_map]
  exact Nat.le_trans (List.length_filter_le _ _) (by simp)
theorem allB_le (B C : Nat → Bo) (p : Nat → Nat → Bool) (m : Nat) : ∀ n, (allB B C p m n).length ≤ n * m
  | 0 => by simp [allB]
  | n + 1 => by
    have h1 := allB_le B C p m n
    have h2 := rowB_le B C p m n
    rw [allB, List.length_append, Nat.add_mul]
    omega
theorem rowB_ext {B C : Nat → Bo} {p : Nat → Nat → Bool} {i k : Nat} : ∀ {m : Nat}, k ≤ m → ∃ R, rowB B C p m i = rowB B C p k i ++ R
  | 0, h => by
    have : k = 0 := by omega
    subst this; exact ⟨[], by simp⟩
  | m + 1, h => by
    rcases Nat.lt_or_ge k (m + 1) with h' | h'
    · obtain ⟨R, hR⟩ := rowB_ext (B := B) (C := C) (p := p) (i := i) (show k ≤ m by omega)
      cases e : (p i m && meO (B i) (C m)) with
      | true => exact ⟨R ++ [(i, m)], by rw [rowB_yes e, hR, List.append_assoc]⟩
      | false => exact ⟨R, by rw [rowB_no e, hR]⟩
    · have : k = m + 1 := by omega
      subst this; exact ⟨[], by simp⟩
theorem allB_ext {B C : Nat → Bo} {p : Nat → Nat → Bool} {m a : Nat} : ∀ {n : Nat}, a ≤ n → ∃ R, allB B C p m n = allB B C p m a ++ R
  | 0, h => by
    have : a = 0 := by omega
    subst this; exact ⟨[], by simp⟩
  | n + 1, h => by
    rcases Nat.lt_or_ge a (n + 1) with h' | h'
    · obtain ⟨R, hR⟩ := allB_ext (B := B) (C := C) (p := p) (m := m) (show a ≤ n by omega)
      exact ⟨R ++ rowB B C p m n, by rw [allB, hR, List.append_assoc]⟩
    · have : a = n + 1 := by omega
      subst this; exact ⟨[], by simp⟩
theorem allB_at {B C : Nat → Bo} {p : Nat → Nat → Bool} {m n i k t : Nat} (hi : i < n) (hk : k < m) (h : (p i k && meO (B i) (C k)) = true) (ht : t = (allB B C p m i).length + (rowB B C p k i).length) : (allB B C p m n)[t]? = some (i, k) := by
  obtain ⟨R, hR⟩ := allB_ext (B := B) (C := C) (p := p) (m := m) (show i + 1 ≤ n by omega)
  obtain ⟨S, hS⟩ := rowB_ext (B := B) (C := C) (p := p) (i := i) (show k + 1 ≤ m by omega)
  rw [hR, allB, hS, rowB_yes h, ht]
  have e : allB B C p m i ++ (rowB B C p k i ++ [(i, k)] ++ S) ++ R = (allB B C p m i ++ rowB B C p k i) ++ ((i, k) :: (S ++ R)) := by simp [List.append_assoc]
  rw [e, ← List.length_append, List.getElem?_append_right (Nat.le_refl _), Nat.sub_self]
  rfl
theorem nums_ext {p : Nat → Bool} {k : Nat} : ∀ {n : Nat}, k ≤ n → ∃ R, nums p n = nums p k ++ R
  | 0, h => by
    have : k = 0 := by omega
    subst this; exact ⟨[], by simp⟩
  | n + 1, h => by
    rcases Nat.lt_or_ge k (n + 1) with h' | h'
    · obtain ⟨R, hR⟩ := nums_ext (p := p) (show k ≤ n by omega)
      cases e : p n with
      | true => exact ⟨R ++ [n], by rw [nums_yes e, hR, List.append_assoc]⟩
      | false => exact ⟨R, by rw [nums_no e, hR]⟩
    · have : k = n + 1 := by omega
      subst this; exact ⟨[], by simp⟩
theorem nums_at {p : Nat → Bool} {n k t : Nat} (hk : k < n) (h : p k = true) (ht : t = (nums p k).length) : (nums p n)[t]? = some k := by
  obtain ⟨R, hR⟩ := nums_ext (p := p) (show k + 1 ≤ n by omega)
  rw [hR, nums_yes h, ht, List.append_assoc, List.getElem?_append_right (Nat.le_refl _), Nat.sub_self]
  rfl
theorem at_lt {α : Type} {L : List α} {t : Nat} {x : α} (h : L[t]? = some x) : t < L.length := by
  rcases Nat.lt_or_ge t L.length with h' | h'
  · exact h'
  · rw [List.getElem?_eq_none h'] at h; cases h

end Go.Proofs.Ytgcklheijcfneaa
