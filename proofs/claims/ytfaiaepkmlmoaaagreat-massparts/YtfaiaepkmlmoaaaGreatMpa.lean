/-
  What each function of package poly answers, and what the reference of its chapter answers: one contract a function, for every float: the answer stands in the relation of its formula to what was given; of the memory that was there nothing has turned.
-/
import Derived.Test.YtfaiaepkmlmoaaaGreatVec
import Derived.Test.YtfaiaepkmlmoaaaGreatMy
import Derived.Test.YtfaiaepkmlmoaaaGreatMt
import Derived.Deep.DeepCutAuto
import Derived.Below
import Derived.Laws.MakeOwn
import Derived.Laws.StructEq
import Derived.Deep.LoopGhost
import Derived.BigQuiet
import Derived.OwnWalk
import Derived.Laws.AppendOwn
import Derived.WalkKit
import Derived.WalkLawsBesides
import Derived.WalkSpells
import Derived.ProofKit
import Derived.OpenShut
import Derived.Deep.RegionHeld3
namespace Go.Proofs.YtfaiaepkmlmoaaaGreat
open Go.ChangeShapes Go.WideShapes Go.ChangeAt Go.RowKit
set_option linter.unusedVariables false
set_option linter.unusedSimpArgs false


theorem sm_num {a b : Nat} (h : smK .f64 a b = true) (n : nanK .f64 a = false) : a = b := by
  unfold smK at h
  rw [n] at h
  simp at h
  exact h.2
theorem may_num {m j x y : Nat} (h : mB m j x y = true) : nanK .f64 m = false ∧ nanK .f64 j = false ∧ nanK .f64 x = false ∧ nanK .f64 y = false := by
  unfold mB endB withinK leK at h
  simp at h
  obtain ⟨⟨⟨⟨⟨_, h1⟩, _⟩, _⟩, ⟨⟨_, h2⟩, _⟩, _⟩, ⟨⟨⟨_, h3⟩, _⟩, _⟩, ⟨⟨_, h4⟩, _⟩, _⟩ := h
  exact ⟨h1, h2, h3, h4⟩
theorem told_0 {a b c d m j x y : Nat} (h : Told a b c d m j x y 0) : mB m j x y = true ∧ x = c ∧ y = d := by
  rcases h with ⟨h, rfl, rfl, rfl, rfl, _⟩ | ⟨_, _, _, _, _, h⟩
  · exact ⟨h, rfl, rfl⟩
  · cases h
theorem of_0 {k : Int} {r n d m j x y : Nat} {xs ys : Nat → Nat} (o : Oks xs ys n) (hr : okK .f64 r) (h : OfA k r xs ys n d m j x y 0) : mB m j x y = true ∧ okK .f64 x ∧ okK .f64 y := by
  unfold OfA at h
  by_cases h1 : shE k r xs ys n = 0
  · rw [if_pos h1] at h
    by_cases h2 : densB d = true
    · rw [if_pos h2] at h
      have hs := sh_some o hr h1
      by_cases h3 : k = 1
      · rw [if_pos h3] at h
        obtain ⟨_, _, _, ht⟩ := h
        obtain ⟨a1, rfl, rfl⟩ := told_0 ht
        have hn : 0 < n := by rcases hs with ⟨_, hs, _⟩ | ⟨_, hs, _⟩ | ⟨_, hs, _⟩ <;> omega
        exact ⟨a1, (o 0 hn).1, (o 0 hn).2⟩
      · rw [if_neg h3] at h
        by_cases h4 : k = 2
        · rw [if_pos h4] at h
          obtain ⟨_, _, _, _, ⟨_, _, _, _, _, _, p, q, _, _, hx, hy⟩, ht⟩ := h
          obtain ⟨a1, rfl, rfl⟩ := told_0 ht
          exact ⟨a1, hx.1, hy.1⟩
        · rw [if_neg h4] at h
          rcases h with ⟨h0, _, _, _, _, he⟩ | ⟨_, _, _, _, _, _, ht⟩
          · exact absurd he.symm h0
          · obtain ⟨a1, rfl, rfl⟩ := told_0 ht
            exact ⟨a1, (cen_ok xs ys n).1, (cen_ok xs ys n).2⟩
    · rw [if_neg h2] at h; exact absurd h.2 (by decide)
  · rw [if_neg h1] at h; exact absurd h.2.symm h1
abbrev M4_ := Nat × Nat × Nat × Nat
def mR (M : List M4_) : List Value := M.flatMap fun q => [.float .f64 q.1, .float .f64 q.2.1, .float .f64 q.2.2.1, .float .f64 q.2.2.2]
theorem mR_snoc (M : List M4_) (q : M4_) : mR (M ++ [q]) = mR M ++ [.float .f64 q.1, .float .f64 q.2.1, .float .f64 q.2.2.1, .float .f64 q.2.2.2] := by simp [mR]
theorem mR_get : ∀ (M : List M4_) (i : Nat) (q : M4_), M[i]? = some q → (mR M)[i * 4]? = some (.float .f64 q.1) ∧ (mR M)[i * 4 + 1]? = some (.float .f64 q.2.1) ∧ (mR M)[i * 4 + 2]? = some (.float .f64 q.2.2.1) ∧ (mR M)[i * 4 + 3]? = some (.float .f64 q.2.2.2)
  | [], i, q, h => by simp at h
  | a :: M, 0, q, h => by
    simp at h
    subst h
    exact ⟨rfl, rfl, rfl, rfl⟩
  | a :: M, i + 1, q, h => by
    have ih := mR_get M i q (by simpa using h)
    have e : mR (a :: M) = [.float .f64 a.1, .float .f64 a.2.1, .float .f64 a.2.2.1, .float .f64 a.2.2.2] ++ mR M := rfl
    have g : ∀ c, (mR (a :: M))[(i + 1) * 4 + c]? = (mR M)[i * 4 + c]? := fun c => by
      rw [e, List.getElem?_append_right (by simp; omega)]
      congr 1
      simp; omega
    exact ⟨(g 0).trans ih.1, (g 1).trans ih.2.1, (g 2).trans ih.2.2.1, (g 3).trans ih.2.2.2⟩
def fA (M : List M4_) (i : Nat) : Nat := (M.getD i (0, 0, 0, 0)).1
def fB (M : List M4_) (i : Nat) : Nat := (M.getD i (0, 0, 0, 0)).2.1
def fC (M : List M4_) (i : Nat) : Nat := (M.getD i (0, 0, 0, 0)).2.2.1
def fD (M : List M4_) (i : Nat) : Nat := (M.getD i (0, 0, 0, 0)).2.2.2
theorem mR_ml {w : World} {g : Nat} {M : List M4_} (h : Rw w g 0 (mR M)) : Ml w g 0 M.length (fA M) (fB M) (fC M) (fD M) := fun i hi => by
  have hq : M[i]? = some (M.getD i (0, 0, 0, 0)) := by rw [List.getD_eq_getElem?_getD, List.getElem?_eq_getElem hi]; rfl
  obtain ⟨h1, h2, h3, h4⟩ := mR_get M i _ hq
  exact ⟨h _ _ h1, by have := h _ _ h2; rwa [← Nat.add_assoc] at this, by have := h _ _ h3; rwa [← Nat.add_assoc] at this, by have := h _ _ h4; rwa [← Nat.add_assoc] at this⟩
/-- what was weighed of the first k parts -/
inductive PW (Kq : Nat → Int) (R : Nat → Nat) (N : Nat → Nat) (X Y : Nat → Nat → Nat) (D : Nat → Nat) (S : Nat → Bool) : Nat → List M4_ → Prop
  | nil : PW Kq R N X Y D S 0 []
  | sens {k : Nat} {M : List M4_} {m j x y : Nat} : PW Kq R N X Y D S k M → OfA (Kq k) (R k) (X k) (Y k) (N k) (D k) m j x y 0 → S k = true → PW Kq R N X Y D S (k + 1) M
  | put {k : Nat} {M : List M4_} {m j x y : Nat} : PW Kq R N X Y D S k M → OfA (Kq k) (R k) (X k) (Y k) (N k) (D k) m j x y 0 → S k = false → PW Kq R N X Y D S (k + 1) (M ++ [(m, j, x, y)])

variable {Kq : Nat → Int} {R : Nat → Nat} {N : Nat → Nat} {X Y : Nat → Nat → Nat} {D : Nat → Nat} {S : Nat → Bool}
theorem of_same {k m j x y m' j' x' y' : Nat} (o : Oks (X k) (Y k) (N k)) (hr : okK .f64 (R k)) (h : OfA (Kq k) (R k) (X k) (Y k) (N k) (D k) m j x y 0) (g : OfA (Kq k) (R k) (X k) (Y k) (N k) (D k) m' j' x' y' 0) : m = m' ∧ j = j' ∧ x = x' ∧ y = y' := by
  obtain ⟨n1, n2, n3, n4⟩ := may_num (of_0 o hr h).1
  obtain ⟨s1, s2, s3, s4, _⟩ := h.sm g
  exact ⟨sm_num s1 n1, sm_num s2 n2, sm_num s3 n3, sm_num s4 n4⟩
theorem PW.len {k : Nat} {M : List M4_} (h : (PW Kq R N X Y D S) k M) : M.length ≤ k := by
  induction h with
  | nil => exact Nat.le_refl _
  | sens _ _ _ ih => omega
  | put _ _ _ ih => simp; omega
theorem PW.okc {k : Nat} {M : List M4_} (h : (PW Kq R N X Y D S) k M) : (∀ i, i < k → Oks (X i) (Y i) (N i) ∧ okK .f64 (R i)) → ∀ q ∈ M, okK .f64 q.2.2.1 ∧ okK .f64 q.2.2.2 := by
  induction h with
  | nil => intro _ q hq; cases hq
  | sens _ _ _ ih => intro o; exact ih (fun i hi => o i (by omega))
  | put _ hO _ ih =>
    intro o q hq
    rcases List.mem_append.1 hq with hq | hq
    · exact ih (fun i hi => o i (by omega)) q hq
    · simp at hq
      subst hq
      exact (of_0 (o _ (by omega)).1 (o _ (by omega)).2 hO).2
theorem PW.same {k : Nat} {M : List M4_} (h : (PW Kq R N X Y D S) k M) : (∀ i, i < k → Oks (X i) (Y i) (N i) ∧ okK .f64 (R i)) → ∀ {M' : List M4_}, (PW Kq R N X Y D S) k M' → M = M' := by
  induction h with
  | nil =>
    intro _ M' g
    generalize hl : 0 = l at g
    cases g with
    | nil => rfl
    | sens => omega
    | put => omega
  | sens h1 hO hs ih =>
    rename_i k M m j x y
    intro o M' g
    generalize hl : k + 1 = l at g
    cases g with
    | nil => omega
    | sens g1 gO gs =>
      have e := Nat.add_right_cancel hl
      subst e
      exact ih (fun i hi => o i (by omega)) g1
    | put g1 gO gs =>
      have e := Nat.add_right_cancel hl
      subst e
      rw [hs] at gs; cases gs
  | put h1 hO hs ih =>
    rename_i k M m j x y
    intro o M' g
    generalize hl : k + 1 = l at g
    cases g with
    | nil => omega
    | sens g1 gO gs =>
      have e := Nat.add_right_cancel hl
      subst e
      rw [hs] at gs; cases gs
    | put g1 gO gs =>
      have e := Nat.add_right_cancel hl
      subst e
      obtain rfl := ih (fun i hi => o i (by omega)) g1
      obtain ⟨rfl, rfl, rfl, rfl⟩ := of_same (o _ (by omega)).1 (o _ (by omega)).2 hO gO
      rfl
theorem PW.at {k : Nat} {M : List M4_} (h : (PW Kq R N X Y D S) k M) : ∀ i, i < k → ∃ m j x y, OfA (Kq i) (R i) (X i) (Y i) (N i) (D i) m j x y 0 := by
  induction h with
  | nil => intro i hi; omega
  | sens h1 hO hs ih =>
    rename_i k M m j x y
    intro i hi
    by_cases e : i = k
    · subst e; exact ⟨_, _, _, _, hO⟩
    · exact ih i (by omega)
  | put h1 hO hs ih =>
    rename_i k M m j x y
    intro i hi
    by_cases e : i = k
    · subst e; exact ⟨_, _, _, _, hO⟩
    · exact ih i (by omega)
/-- what Parts answers -/
def PaR (Kq : Nat → Int) (R : Nat → Nat) (N : Nat → Nat) (X Y : Nat → Nat → Nat) (D : Nat → Nat) (S : Nat → Bool) (n : Nat) (Ab : Nat → Nat → Nat → Nat → Nat → Nat → Nat → Prop) (m j x y : Nat) (f : Int) : Prop :=
  (8 < n ∧ (m = 0 ∧ j = 0 ∧ x = 0 ∧ y = 0) ∧ f = 4) ∨ (n ≤ 8 ∧ ∃ k M a b c d, k < n ∧ (PW Kq R N X Y D S) k M ∧ OfA (Kq k) (R k) (X k) (Y k) (N k) (D k) a b c d f ∧ f ≠ 0 ∧ (m = 0 ∧ j = 0 ∧ x = 0 ∧ y = 0)) ∨ (n ≤ 8 ∧ ∃ M, (PW Kq R N X Y D S) n M ∧ JoinA (fA M) (fB M) (fC M) (fD M) M.length Ab m j x y f)
theorem PaR.same {n m j x y m' j' x' y' : Nat} {f f' : Int} (o : ∀ i, i < n → Oks (X i) (Y i) (N i) ∧ okK .f64 (R i)) (h : PaR Kq R N X Y D S n AboutR m j x y f) (g : PaR Kq R N X Y D S n AboutF m' j' x' y' f') : Sm5 m j x y m' j' x' y' f f' := by
  have step : ∀ {k k' : Nat} {M' : List M4_} {a b c d : Nat} {e : Int}, (PW Kq R N X Y D S) k' M' → OfA (Kq k) (R k) (X k) (Y k) (N k) (D k) a b c d e → e ≠ 0 → k' ≤ k := fun {k k' M' a b c d e} hM hO he => by
    rcases Nat.lt_or_ge k k' with h | h
    · obtain ⟨m, j, x, y, h0⟩ := hM.at k h
      exact absurd (h0.sm hO).2.2.2.2.symm he
    · exact h
  rcases h with ⟨h1, h2, h3⟩ | ⟨h1, k, M, a, b, c, d, hk, hM, hO, hf, hz⟩ | ⟨h1, M, hM, hJ⟩ <;> rcases g with ⟨g1, g2, g3⟩ | ⟨g1, k', M', a', b', c', d', hk', gM, gO, gf, gz⟩ | ⟨g1, M', gM, gJ⟩
  · exact sm5_zero h2 g2 (h3.trans g3.symm)
  · omega
  · omega
  · omega
  · have e1 := step hM gO gf
    have e2 := step gM hO hf
    obtain rfl : k = k' := by omega
    exact sm5_zero hz gz (hO.sm gO).2.2.2.2
  · have := step gM hO hf
    omega
  · omega
  · have := step hM gO gf
    omega
  · obtain rfl := hM.same o gM
    refine hJ.sm (fun q hq => ?_) gJ
    have hq2 : M[q]? = some (M.getD q (0, 0, 0, 0)) := by rw [List.getD_eq_getElem?_getD, List.getElem?_eq_getElem hq]; rfl
    exact hM.okc o _ (List.mem_of_getElem? hq2)

end Go.Proofs.YtfaiaepkmlmoaaaGreat
