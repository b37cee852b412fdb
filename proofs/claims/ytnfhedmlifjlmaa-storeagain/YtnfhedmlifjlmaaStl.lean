/-
  Plain facts on floats, more: rounding to the nearest rung, sums and products of finite floats, signs turned. No program is named here.
-/
import Derived.Test.YtnfhedmlifjlmaaStk
namespace Go.Proofs.Ytnfhedmlifjlmaa
open Ieee Go.RowKit
set_option linter.unusedSimpArgs false
set_option linter.unusedVariables false

/-! ### What one deed answers, and what it leaves -/
inductive Act1 (s : Ss) (x : Int) (a : Nat) : Nat × Nat → Nat × Nat → Ss → Prop
  | put (k : Nat) : ¬ x < 0 → NextIs s k → k < s.most → Act1 s x a (k, s.U.getD k 0 + 1) (0, 0) (putS s k (.int .i64 x))
  | full (k : Nat) : ¬ x < 0 → NextIs s k → k = s.most → Act1 s x a (0, 0) (0, 4) { s with nx := k }
  | take (b : Nat) (v : Int) (gv : Nat) : x < 0 → Named s a b → Thing s a (.int .i64 v) → IntKind.wrap .u32 v = (gv : Int) → Act1 s x a (a, b) (gv, 0) (takeS s a (.int .i64 0))
  | no : x < 0 → ¬ s.L[a]? = some true → Act1 s x a (0, 0) (0, 9) s
inductive ActsR (up : Int → Nat) (s : Ss) : List Int → List (Nat × Nat) → Ss → Prop
  | nil : ActsR up s [] [] s
  | snoc {xs : List Int} {R : List (Nat × Nat)} {s' s'' : Ss} {x : Int} {h g : Nat × Nat} : ActsR up s xs R s' → Act1 s' x (up x) h g s'' → ActsR up s (xs ++ [x]) (R ++ [h, g]) s''
theorem Okk.nx' {s : Ss} (h : Okk s) {k : Nat} (hk : NextIs s k) : Okk { s with nx := k } := ⟨h.m1, h.m2, h.um, h.ll, h.tl, h.uo, hk.le, hk.fl, h.lc⟩
structure Gd (m : Sm) (s : Ss) : Prop where
  ok : Okk s
  mo : s.most = 40
  ty : ∀ v ∈ s.T, ∃ x, v = .int .i64 x
  us : ∀ i : Nat, s.L[i]? = some true → s.U[i]? ≠ some 0
  nm : s.U = [] → m.su = none ∧ m.cu = 0 ∧ m.sl = none ∧ m.cl = 0
theorem set_get {α : Type} (l : List α) (k i : Nat) (v : α) : (l.set k v)[i]? = if k = i then (if i < l.length then some v else none) else l[i]? := by
  rw [List.getElem?_set]
  by_cases h : k = i
  · subst h
    simp
  · rw [if_neg h, if_neg h]
theorem Gd.act {m m' : Sm} {s s' : Ss} {x : Int} {a : Nat} {h g : Nat × Nat} (G : Gd m s) (hA : Act1 s x a h g s') (hm : s'.U = s.U → m' = m ∨ s.U ≠ []) : Gd m' s' := by
  have hll := G.ok.ll
  have htl := G.ok.tl
  cases hA with
  | put k hx hk hkm =>
    refine ⟨G.ok.put hk hkm _, G.mo, fun v hv => ?_, fun i hi => ?_, fun e => ?_⟩
    · have hv : v ∈ (if k < s.U.length then s.T.set k (.int .i64 x) else s.T ++ [.int .i64 x]) := hv
      split at hv
      · rcases List.mem_or_eq_of_mem_set hv with hv | rfl
        · exact G.ty v hv
        · exact ⟨x, rfl⟩
      · rcases List.mem_append.1 hv with hv | hv
        · exact G.ty v hv
        · simp at hv; exact ⟨x, hv⟩
    · have hi : (if k < s.U.length then s.L.set k true else s.L ++ [true])[i]? = some true := hi
      show (if k < s.U.length then s.U.set k (s.U.getD k 0 + 1) else s.U ++ [1])[i]? ≠ some 0
      split at hi
      · rename_i hlt
        rw [if_pos hlt, set_get]
        rw [set_get] at hi
        by_cases e : k = i
        · rw [if_pos e]
          split <;> simp
        · rw [if_neg e] at hi ⊢
          exact G.us i hi
      · rename_i hlt
        rw [if_neg hlt]
        rcases Nat.lt_or_ge i s.U.length with h' | h'
        · rw [List.getElem?_append_left h']
          rw [List.getElem?_append_left (by omega)] at hi
          exact G.us i hi
        · rw [List.getElem?_append_right h']
          rcases Nat.eq_zero_or_pos (i - s.U.length) with e | e
          · rw [e]; simp
          · rw [List.getElem?_eq_none (by simp; omega)]; simp
    · exfalso
      have e : (if k < s.U.length then s.U.set k (s.U.getD k 0 + 1) else s.U ++ [1]) = [] := e
      split at e
      · rename_i hlt
        have := congrArg List.length e
        simp at this
        rw [this] at hlt
        simp at hlt
      · simp at e
  | full k hx hk hkm =>
    refine ⟨G.ok.nx' hk, G.mo, G.ty, G.us, fun e => ?_⟩
    exfalso
    have e : s.U = [] := e
    have h1 := hk.le
    have h2 := G.mo
    rw [e] at h1
    simp at h1
    omega
  | take b v gv hx hn ht hg =>
    refine ⟨G.ok.take hn.1 _, G.mo, fun u hu => ?_, fun i hi => ?_, fun e => ?_⟩
    · have hu : u ∈ s.T.set a (.int .i64 0) := hu
      rcases List.mem_or_eq_of_mem_set hu with hu | rfl
      · exact G.ty u hu
      · exact ⟨0, rfl⟩
    · have hi : (s.L.set a false)[i]? = some true := hi
      rw [set_get] at hi
      by_cases e : a = i
      · rw [if_pos e] at hi; split at hi <;> cases hi
      · rw [if_neg e] at hi; exact G.us i hi
    · exfalso
      have e : s.U = [] := e
      have := hn.2
      rw [e] at this
      simp at this
  | no hx hn =>
    refine ⟨G.ok, G.mo, G.ty, G.us, fun e => ?_⟩
    rcases hm rfl with rfl | h
    · exact G.nm e
    · exact absurd e h
structure Eq3 (s t : Ss) : Prop where
  mo : s.most = t.most
  U : s.U = t.U
  L : s.L = t.L
  T : ∀ i : Nat, s.L[i]? = some true → s.T[i]? = t.T[i]?
theorem Eq3.next {s t : Ss} (e : Eq3 s t) {k : Nat} (h : NextIs t k) : NextIs s k := by
  have hf : ∀ i, full t i ↔ full s i := fun i => by unfold full; rw [e.U, e.L]
  exact ⟨by rw [e.U]; exact h.le, fun i hi => (hf i).1 (h.fl i hi), fun hl hh => h.no (by rw [← e.U]; exact hl) ((hf k).2 hh)⟩
theorem nx_uniq {s : Ss} {a b : Nat} (h : NextIs s a) (k : NextIs s b) : a = b := by
  rcases Nat.lt_trichotomy a b with h' | h' | h'
  · exact absurd (k.fl a h') (h.no (Nat.lt_of_lt_of_le h' k.le))
  · exact h'
  · exact absurd (h.fl b h') (k.no (Nat.lt_of_lt_of_le h' h.le))
theorem Act1.same {s t s' t' : Ss} {x : Int} {a : Nat} {h g h' g' : Nat × Nat} (h1 : Act1 s x a h g s') (h2 : Act1 t x a h' g' t') (e : Eq3 s t) (os : Okk s) (ot : Okk t) : h = h' ∧ g = g' ∧ Eq3 s' t' := by
  have sl := os.tl
  have tl := ot.tl
  cases h1 with
  | put k hx hk hkm =>
    cases h2 with
    | put k' _ hk' _ =>
      obtain rfl := nx_uniq hk (e.next hk')
      refine ⟨by rw [e.U], rfl, e.mo, ?_, ?_, fun i hi => ?_⟩
      · show (if k < s.U.length then s.U.set k (s.U.getD k 0 + 1) else s.U ++ [1]) = (if k < t.U.length then t.U.set k (t.U.getD k 0 + 1) else t.U ++ [1])
        rw [e.U]
      · show (if k < s.U.length then s.L.set k true else s.L ++ [true]) = (if k < t.U.length then t.L.set k true else t.L ++ [true])
        rw [e.U, e.L]
      · have hi : (if k < s.U.length then s.L.set k true else s.L ++ [true])[i]? = some true := hi
        show (if k < s.U.length then s.T.set k (.int .i64 x) else s.T ++ [.int .i64 x])[i]? = (if k < t.U.length then t.T.set k (.int .i64 x) else t.T ++ [.int .i64 x])[i]?
        have hll := os.ll
        have hul : s.U.length = t.U.length := by rw [e.U]
        rw [← hul]
        split at hi
        · rename_i hlt
          rw [if_pos hlt, if_pos hlt, set_get, set_get]
          rw [set_get] at hi
          by_cases ek : k = i
          · rw [if_pos ek, if_pos ek, sl, tl, hul]
          · rw [if_neg ek] at hi
            rw [if_neg ek, if_neg ek]
            exact e.T i hi
        · rename_i hlt
          rw [if_neg hlt, if_neg hlt]
          rcases Nat.lt_or_ge i s.U.length with h' | h'
          · rw [List.getElem?_append_left (by omega)] at hi
            rw [List.getElem?_append_left (by omega), List.getElem?_append_left (by omega)]
            exact e.T i hi
          · rw [List.getElem?_append_right (by omega), List.getElem?_append_right (by omega), sl, tl, hul]
    | full k' _ hk' hm' =>
      obtain rfl := nx_uniq hk (e.next hk')
      have := e.mo
      omega
    | take _ _ _ hx' => exact absurd hx' hx
    | no hx' => exact absurd hx' hx
  | full k hx hk hkm =>
    cases h2 with
    | put k' _ hk' hm' =>
      obtain rfl := nx_uniq hk (e.next hk')
      have := e.mo
      omega
    | full k' _ hk' hm' =>
      exact ⟨rfl, rfl, e.mo, e.U, e.L, e.T⟩
    | take _ _ _ hx' => exact absurd hx' hx
    | no hx' => exact absurd hx' hx
  | take b v gv hx hn ht hg =>
    cases h2 with
    | put _ hx' => exact absurd hx hx'
    | full _ hx' => exact absurd hx hx'
    | take b' v' gv' _ hn' ht' hg' =>
      have eb : b = b' := by
        have h1 := hn.2
        have h2 := hn'.2
        rw [e.U, h2] at h1
        exact (Option.some.inj h1).symm
      have ev : v = v' := by
        have h1 : s.T[a]? = some (.int .i64 v) := ht
        have h2 : t.T[a]? = some (.int .i64 v') := ht'
        rw [e.T a hn.1, h2] at h1
        have h3 := Option.some.inj h1
        simp at h3
        exact h3.symm
      subst eb ev
      have eg : gv = gv' := by rw [hg] at hg'; omega
      subst eg
      refine ⟨rfl, rfl, e.mo, e.U, ?_, fun i hi => ?_⟩
      · show s.L.set a false = t.L.set a false
        rw [e.L]
      · have hi : (s.L.set a false)[i]? = some true := hi
        show (s.T.set a (.int .i64 0))[i]? = (t.T.set a (.int .i64 0))[i]?
        rw [set_get] at hi
        by_cases ek : a = i
        · rw [if_pos ek] at hi; split at hi <;> cases hi
        · rw [if_neg ek] at hi
          rw [set_get, set_get, if_neg ek, if_neg ek]
          exact e.T i hi
    | no _ hn' => exact absurd (by rw [← e.L]; exact hn.1) hn'
  | no hx hn =>
    cases h2 with
    | put _ hx' => exact absurd hx hx'
    | full _ hx' => exact absurd hx hx'
    | take _ _ _ _ hn' => exact absurd (by rw [e.L]; exact hn'.1) hn
    | no _ _ => exact ⟨rfl, rfl, e⟩
theorem Act1.okk {s s' : Ss} {x : Int} {a : Nat} {h g : Nat × Nat} (hA : Act1 s x a h g s') (o : Okk s) : Okk s' := by
  cases hA with
  | put k hx hk hkm => exact o.put hk hkm _
  | full k hx hk hkm => exact o.nx' hk
  | take b v gv hx hn ht hg => exact o.take hn.1 _
  | no hx hn => exact o
theorem ActsR.okk {up : Int → Nat} {s s' : Ss} {xs : List Int} {R : List (Nat × Nat)} (h : ActsR up s xs R s') (o : Okk s) : Okk s' := by
  induction h with
  | nil => exact o
  | snoc _ a ih => exact a.okk ih
theorem ActsR.same {up : Int → Nat} {s s' : Ss} {xs : List Int} {R : List (Nat × Nat)} (h : ActsR up s xs R s') (os : Okk s) : ∀ {t t' : Ss} {R' : List (Nat × Nat)}, ActsR up t xs R' t' → Eq3 s t → Okk t → R = R' ∧ Eq3 s' t' := by
  induction h with
  | nil =>
    intro t t' R' h2 e _
    generalize hl : ([] : List Int) = l at h2
    cases h2 with
    | nil => exact ⟨rfl, e⟩
    | snoc => simp at hl
  | snoc h1 a1 ih =>
    rename_i xs R s1 s2 x hh gg
    intro t t' R' h2 e ot
    generalize hl : xs ++ [x] = l at h2
    cases h2 with
    | nil => simp at hl
    | snoc h2' a2 =>
      obtain ⟨rfl, hx⟩ := List.append_inj' hl rfl
      simp at hx
      subst hx
      obtain ⟨rfl, e'⟩ := ih h2' e ot
      obtain ⟨rfl, rfl, e''⟩ := a1.same a2 e' (h1.okk os) (h2'.okk ot)
      exact ⟨rfl, e''⟩
end Go.Proofs.Ytnfhedmlifjlmaa
