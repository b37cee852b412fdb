/-
  Plain facts on floats, more: rounding to the nearest rung, sums and products of finite floats, signs turned. No program is named here.
-/
import Derived.Test.YtekhnolpgoejdabAppr
import Derived.MapKept
import Derived.RangeFuncRecord
namespace Go.Proofs.Ytekhnolpgoejdab
open Ieee Go.RowKit
set_option linter.unusedSimpArgs false
set_option linter.unusedVariables false

/-! ### A map whose keys are structs of two whole numbers -/
abbrev Ce := Int × Int
def ceV (c : Ce) : Value := .agg #[.int .i64 c.1, .int .i64 c.2]
/-- what is asked of the program: such keys are told apart by their two numbers -/
structure KeyP (P : Program) (k : TypeId) : Prop where
  eq : ∀ (a b : Ce) (w : World), (Op.equal k (ceV a) (ceV b)).run P w = .ok (decide (a = b)) w
  ck : ∀ (e : Bool) (c : Ce) (w : World), (Instr.checkKey e 10000 k (ceV c)).run P w = .ok () w
  und : ∃ fs, P.underlying k = some (.struct fs)
abbrev En := Ce × Value × Nat
def mkE (m : En) : MapEntry := { key := ceV m.1, val := m.2.1, born := m.2.2 }
def Mp (w : World) (b : Nat) (M : List En) (ck : Nat) : Prop := w.heap[b]? = some (.map (M.map mkE).toArray ck)
def ixM (c : Ce) (M : List En) : Option Nat := M.findIdx? (fun m => decide (c = m.1))

theorem find_asking {P : Program} {k : TypeId} (h : KeyP P k) (c : Ce) (w : World) : ∀ (M : List En) (i : Nat), (Instr.findAsking k (ceV c) (M.map mkE) i).run P w = .ok ((ixM c M).bind fun j => (M[j]?).map fun m => (i + j, m.2.1)) w
  | [], i => by simp [Instr.findAsking, ixM]
  | m :: M, i => by
    have ih := find_asking h c w M (i + 1)
    have e1 : (Op.equal k (ceV c) (mkE m).key).run P w = .ok (decide (c = m.1)) w := h.eq c m.1 w
    simp only [List.map_cons, Instr.findAsking, Sem.run_bind, e1, Result.andThen]
    by_cases hc : c = m.1
    · simp [hc, ixM, List.findIdx?_cons, mkE]
    · simp only [hc, decide_false, Bool.false_eq_true, if_false, ih]
      congr 1
      unfold ixM
      rw [List.findIdx?_cons]
      simp only [hc, decide_false, Bool.false_eq_true, if_false]
      cases hx : M.findIdx? (fun m => decide (c = m.1)) with
      | none => simp
      | some j => simp [Nat.add_assoc, Nat.add_comm 1 j]
theorem find_key {P : Program} {k : TypeId} (h : KeyP P k) (c : Ce) (w : World) (M : List En) : (Instr.findKey k (ceV c) (M.map mkE)).run P w = .ok ((ixM c M).bind fun j => (M[j]?).map fun m => (j, m.2.1)) w := by
  obtain ⟨fs, hf⟩ := h.und
  have ha := find_asking h c w M 0
  simp only [Nat.zero_add] at ha
  unfold Instr.findKey
  simp only [Sem.run_bind, run_underlying hf, Result.andThen]
  cases M with
  | nil => simp [Instr.findNow, ixM]
  | cons m M =>
    have : Instr.findNow (.struct fs) (ceV c) (mkE m :: M.map mkE) 0 = none := by
      unfold Instr.findNow Instr.sameNow ceV
      rfl
    rw [List.map_cons] at ha ⊢
    rw [this]
    exact ha
theorem ix_some {c : Ce} {M : List En} {j : Nat} (h : ixM c M = some j) : ∃ v b, M[j]? = some (c, v, b) ∧ j < M.length := by
  unfold ixM at h
  rw [List.findIdx?_eq_some_iff_getElem] at h
  obtain ⟨hl, h1, _⟩ := h
  have h1 : c = M[j].1 := by simpa using h1
  exact ⟨M[j].2.1, M[j].2.2, by rw [List.getElem?_eq_getElem hl, h1], hl⟩
theorem ix_none {c : Ce} {M : List En} (h : ixM c M = none) : ∀ m ∈ M, m.1 ≠ c := by
  unfold ixM at h
  rw [List.findIdx?_eq_none_iff] at h
  intro m hm e
  have := h m hm
  rw [e] at this
  simp at this
theorem same_ce (c : Ce) : Instr.sameBits 10000 (ceV c) (ceV c) = true := by
  unfold ceV Instr.sameBits
  simp [Instr.sameBits]
theorem stays_ce {P : Program} (c : Ce) (w : World) : (Instr.keyThatStays (ceV c) (ceV c)).run P w = .ok (ceV c) w := by
  unfold Instr.keyThatStays
  rw [same_ce]
  rfl
theorem put_same {w : World} {b : Nat} {o : Obj} (h : w.heap[b]? = some o) : ({ w with heap := w.heap.setIfInBounds b o } : World) = w := by
  have : w.heap.setIfInBounds b o = w.heap := by
    apply Array.ext_getElem?
    intro i
    by_cases e : b = i
    · subst e
      have := (Array.getElem?_eq_some_iff.1 h).1
      rw [Array.getElem?_setIfInBounds_self_of_lt this, h]
    · rw [Array.getElem?_setIfInBounds_ne e]
  rw [this]
theorem erase_map {α β : Type} (f : α → β) : ∀ (l : List α) (j : Nat), (l.map f).eraseIdx j = (l.eraseIdx j).map f
  | [], j => by simp
  | a :: l, 0 => by simp
  | a :: l, j + 1 => by simp [erase_map f l j]
/-- 'm[k]' -/
theorem lookup_ce {P : Program} {t k e : TypeId} (h : KeyP P k) (ht : P.underlying t = some (.map k e)) {z : Value} {w : World} (hz : (zeroValue e).run P w = .ok z w) {b ck : Nat} {M : List En} (hm : Mp w b M ck) (c : Ce) :
    (Instr.lookup t (.map (some b)) (ceV c) false).run P w = .ok (((ixM c M).bind fun j => (M[j]?).map fun m => m.2.1).getD z) w := by
  have hgo := Go.MapKept.run_getObj_map (P := P) hm
  have hso := fun o => Go.MapKept.run_setObj_map (P := P) o hm
  unfold Instr.lookup
  have hk := h.ck (M.map mkE).toArray.isEmpty c w
  have hf := find_key h c w M
  simp only [Sem.run_bind, run_underlying ht, hgo, Result.andThen, Sem.run_pure, hk, hf]
  cases hx : ixM c M with
  | none => simp [hz]
  | some j =>
    obtain ⟨v, bn, hj, _⟩ := ix_some hx
    simp [hj]
/-- 'delete(m, k)' -/
theorem delete_ce {P : Program} {t k e ty kt : TypeId} (h : KeyP P k) (ht : P.underlying t = some (.map k e)) {w : World} {b ck : Nat} {M : List En} (hm : Mp w b M ck) (c : Ce) :
    (Builtin.delete_ #[t, kt] ty #[.map (some b), ceV c]).run P w = .ok (.tuple #[]) (w.putObj b (.map ((match ixM c M with | some j => M.eraseIdx j | none => M).map mkE).toArray ck)) := by
  have hgo := Go.MapKept.run_getObj_map (P := P) hm
  have hso := fun o => Go.MapKept.run_setObj_map (P := P) o hm
  unfold Builtin.delete_
  have hk := h.ck (M.map mkE).toArray.isEmpty c w
  have hf := find_key h c w M
  simp only [List.getElem?_toArray, List.getElem?_cons_zero, List.getElem?_cons_succ, Sem.run_bind, run_underlying ht, hgo, Result.andThen, hk, hf]
  cases hx : ixM c M with
  | none =>
    simp [hso, World.putObj, Result.andThen]
  | some j =>
    obtain ⟨v, bn, hj, hl⟩ := ix_some hx
    simp [hj, hso, World.putObj, Result.andThen, Array.eraseIdxIfInBounds, hl, erase_map]
/-- 'm[k]' of 'm[k] = append(m[k], ..)': it is there -/
theorem entry_some {P : Program} {t k e : TypeId} (h : KeyP P k) (ht : P.underlying t = some (.map k e)) {w : World} {b ck : Nat} {M : List En} (hm : Mp w b M ck) (c : Ce) {j : Nat} {v : Value} {bn : Nat} (hx : ixM c M = some j) (hj : M[j]? = some (c, v, bn)) :
    (Instr.mapEntry t (.map (some b)) (ceV c)).run P w = .ok (.tuple #[v, goInt bn]) w := by
  have hgo := Go.MapKept.run_getObj_map (P := P) hm
  have hso := fun o => Go.MapKept.run_setObj_map (P := P) o hm
  unfold Instr.mapEntry
  have hk := h.ck false c w
  have hf := find_key h c w M
  have hl : j < M.length := by
    rcases Nat.lt_or_ge j M.length with h' | h'
    · exact h'
    · rw [List.getElem?_eq_none h'] at hj; cases hj
  have hg : (M.map mkE).toArray[j]? = some (mkE (c, v, bn)) := by simp [hj]
  have hmod : (M.map mkE).toArray.modify j (fun e => { e with key := ceV c }) = (M.map mkE).toArray := by
    apply Array.ext_getElem?
    intro i
    rw [Array.getElem?_modify]
    by_cases e : j = i
    · subst e; rw [if_pos rfl, hg]; rfl
    · rw [if_neg e]
  have hst := stays_ce (P := P) c w
  simp only [Sem.run_bind, run_underlying ht, hgo, Result.andThen, hk, hf, hx, Option.bind_some, hj, Option.map_some, hg, Option.getD_some]
  have hst' : (Instr.keyThatStays (mkE (c, v, bn)).key (ceV c)).run P w = .ok (ceV c) w := hst
  simp only [hst', Result.andThen, hmod, hso, put_same hm, Sem.run_pure]
  rfl
/-- .. it is not there -/
theorem entry_none {P : Program} {t k e : TypeId} (h : KeyP P k) (ht : P.underlying t = some (.map k e)) {z : Value} {w : World} (hz : (zeroValue e).run P w = .ok z w) {b ck : Nat} {M : List En} (hm : Mp w b M ck) (c : Ce) (hx : ixM c M = none) :
    (Instr.mapEntry t (.map (some b)) (ceV c)).run P w = .ok (.tuple #[z, goInt ck]) (w.putObj b (.map ((M ++ [(c, z, ck)]).map mkE).toArray (ck + 1))) := by
  have hgo := Go.MapKept.run_getObj_map (P := P) hm
  have hso := fun o => Go.MapKept.run_setObj_map (P := P) o hm
  unfold Instr.mapEntry
  have hk := h.ck false c w
  have hf := find_key h c w M
  simp only [Sem.run_bind, run_underlying ht, hgo, Result.andThen, hk, hf, hx, Option.bind_none, hz, hso, Sem.run_pure]
  simp [World.putObj, mkE]
/-- 'm[k] = ..' behind it -/
theorem entry_store {P : Program} {t : TypeId} {w : World} {b ck : Nat} {M : List En} (hm : Mp w b M ck) (hb : (M.map (·.2.2)).Nodup) {j : Nat} {c : Ce} {v : Value} {bn : Nat} (hj : M[j]? = some (c, v, bn)) (v' : Value) :
    (Instr.entryStore t (.map (some b)) (goInt bn) v').run P w = .ok () (w.putObj b (.map ((M.set j (c, v', bn)).map mkE).toArray ck)) := by
  have hl : j < M.length := by
    rcases Nat.lt_or_ge j M.length with h' | h'
    · exact h'
    · rw [List.getElem?_eq_none h'] at hj; cases hj
  have hfi : (M.map mkE).toArray.findIdx? (fun e => ((e.born : Int) == (bn : Int))) = some j := by
    rw [List.findIdx?_toArray, List.findIdx?_eq_some_iff_getElem]
    refine ⟨by simpa using hl, ?_, ?_⟩
    · have : M[j] = (c, v, bn) := by rw [List.getElem?_eq_getElem hl] at hj; exact Option.some.inj hj
      simp [mkE, this]
    · intro i hi
      have hil : i < M.length := by omega
      have hne : M[i].2.2 ≠ bn := by
        intro e
        have h1 : (M.map (·.2.2))[i]'(by simpa using hil) = bn := by simpa using e
        have h2 : (M.map (·.2.2))[j]'(by simpa using hl) = bn := by
          have : M[j] = (c, v, bn) := by rw [List.getElem?_eq_getElem hl] at hj; exact Option.some.inj hj
          simp [this]
        have := (List.pairwise_iff_getElem.1 hb) i j (by simpa using hil) (by simpa using hl) hi
        exact this (h1.trans h2.symm)
      simp only [List.getElem_map, mkE, beq_iff_eq]
      omega
  have hgo := Go.MapKept.run_getObj_map (P := P) hm
  have hso := fun o => Go.MapKept.run_setObj_map (P := P) o hm
  have hai : (asIntOf (Value.int IntKind.i64 (bn : Int))).run P w = .ok (.i64, (bn : Int)) w := by simp [asIntOf]
  unfold Instr.entryStore
  simp only [Sem.run_bind, hgo, Result.andThen, asInt, goInt, Sem.run_pure, hai, hfi, hso]
  have hmod : (M.map mkE).toArray.modify j (fun e => { e with val := v' }) = ((M.set j (c, v', bn)).map mkE).toArray := by
    apply Array.ext_getElem?
    intro i
    rw [Array.getElem?_modify]
    by_cases e : j = i
    · subst e
      have : M[j] = (c, v, bn) := by rw [List.getElem?_eq_getElem hl] at hj; exact Option.some.inj hj
      simp [hj, hl, mkE, this]
    · simp [e, List.getElem?_set_ne e]
  rw [hmod]
  rfl
end Go.Proofs.Ytekhnolpgoejdab
