/-
  What each function of package poly answers, and what the reference of its chapter answers: one contract a function, for every float: the answer stands in the relation of its formula to what was given; of the memory that was there nothing has turned.
-/
import Derived.Test.YtoofbfjlgablkaaVec
import Derived.Test.YtoofbfjlgablkaaPl
import Derived.Below
import Derived.OwnWalk
import Derived.WalkKit
import Derived.WalkLawsBesides
import Derived.WalkSpells
import Derived.ProofKit
import Derived.OpenShut
import Derived.Deep.RegionHeld3
namespace Go.Proofs.Ytoofbfjlgablkaa
open Go.ChangeShapes Go.WideShapes Go.ChangeAt Go.RowKit
set_option linter.unusedVariables false
set_option linter.unusedSimpArgs false


theorem Own.get {base : Nat} {w : World} {v : Value} {L : List Pt} (h : Own base w v L) (hl : 0 < L.length) : ∃ g c, v = .slice (some ⟨g, 0, none⟩) L.length c ∧ base ≤ g ∧ L.length ≤ c ∧ c ≤ maxLen ∧ Sl w g 0 L.length (px L) (py L) ∧ ∀ o, w.frozen? ⟨g, o, none⟩ = false := by
  rcases h with ⟨_, h⟩ | ⟨g, c, h1, h2, h3, h4, h5, _, h7⟩
  · rw [h] at hl; cases hl
  · exact ⟨g, c, h1, h2, h3, h4, h5, h7⟩
def sortS (L : List Pt) : List Pt := insOut 0 (L.length - 1) L
def inOrd (L : List Pt) : List Pt := dd (sortS L) L.length
theorem sort_len (L : List Pt) : (sortS L).length = L.length := insOut_len _ _ _
theorem inOrd_mem {L : List Pt} (h : 0 < L.length) {p : Pt} (hp : p ∈ inOrd L) : p ∈ L := insOut_mem 0 _ L (by omega) p (dd_mem _ (Nat.le_of_eq (insOut_len _ _ _).symm) p hp)
theorem inOrd_len (L : List Pt) : (inOrd L).length ≤ L.length := dd_len _ _
theorem run_zeros (w : World) (ty n : Nat) (h0 : 0 < n) (hn : n ≤ 1000) :
    (Builtin.append_ #[42, 3] ty #[.slice none 0 0, .int .i64 n]).run Try.prog w = .ok (.slice (some ⟨w.heap.size, 0, none⟩) n (grownCap w n 0 26)) (w.drew.alloc (.cells (Builtin.zeroCells (.agg #[.float .f64 0, .float .f64 0] : Value).cells n ++ Builtin.zeroCells (.agg #[.float .f64 0, .float .f64 0] : Value).cells (grownCap w n 0 26 - n)) 26)) := by
  obtain ⟨i0, hi, hz0, hz1, hz2⟩ := info_parts info_vec
  have hn0 : n ≠ 0 := by omega
  have hwr : IntKind.i64.wrap (n : Int) = (n : Int) := by rw [IntKind.wrap_i64]; omega
  have h48 : ¬ (281474976710656 < Builtin.nextslicecap n 0 * 16) := by rw [nextslicecap_zero h0]; omega
  have h47 : ¬ (281474976710656 < (n : Int) * 16) := by omega
  have h63 : ¬ (9223372036854775807 < (n : Int)) := by omega
  have hng : ¬ (n : Int) < 0 := by omega
  have hn2 : ¬ n * 2 = 0 := by omega
  simp [hng, hn2, Builtin.append_, run_underlying Try.underlying42, run_underlying Try.underlying3, sizeOf, typeInfo, zeroValue, hi, hz0, hz1, hz2, hn0, hwr, asInt, asIntOf, h48, h47, h63, Question.forced, run_firstCells_none, newRow, grownCap]
theorem wpList_run2 {w : World} {v u v' : Value} {w' : World} {ops : Array Oper} {rest : List Oper} {o : Oper} {a : Act} {Q : Exit → Act → World → Prop} (hgd : o.guard = none) (s x : Operand) (t1 t2 : TypeId)
    (ho : o.op = .call { callee := .builtin .append, args := #[s, x], argTypes := #[t1, t2] }) (hv : a.eval s = v) (hx : a.eval x = u) (hrun : ∀ ty, (Builtin.append_ #[t1, t2] ty #[v, u]).run Try.prog w = .ok v' w')
    (hK : wpList Try.prog ops Q rest (a.put o.dst v') w') : wpList Try.prog ops Q (o :: rest) a w := by
  refine wpList_plain hgd fun K hK' => ?_
  unfold Oper.wp
  simp [execOp, ho, resolve, invoke, builtin, hv, hx, hrun, Result.andThen]
  exact hK' _ _ hK
theorem px_rev {L : List Pt} {i : Nat} (h : i < L.length) : px L.reverse i = px L (L.length - 1 - i) ∧ py L.reverse i = py L (L.length - 1 - i) := by
  have e : pt L.reverse i = pt L (L.length - 1 - i) := by
    unfold pt
    rw [List.getD_eq_getElem?_getD, List.getD_eq_getElem?_getD, List.getElem?_reverse h]
  unfold px py
  rw [e]
  exact ⟨rfl, rfl⟩
theorem px_drop {L : List Pt} {i : Nat} (h : i < L.length - 1) : px L.dropLast i = px L i ∧ py L.dropLast i = py L i := by
  have e : pt L.dropLast i = pt L i := by
    unfold pt
    rw [List.getD_eq_getElem?_getD, List.getD_eq_getElem?_getD, List.getElem?_dropLast, if_pos h]
  unfold px py
  rw [e]
  exact ⟨rfl, rfl⟩
theorem rowR_two : ∀ (L r : List Pt), 2 ≤ r.length + L.length → (1 ≤ r.length ∨ L = [] ∨ 2 ≤ L.length) → (L = [] → 2 ≤ r.length) → 2 ≤ (rowR r L).length := by
  intro L
  induction L with
  | nil => intro r h _ h2; exact h2 rfl
  | cons p t ih =>
    intro r h h1 _
    have hp : r = [] ∨ 1 ≤ (popR p r).length := by
      match r with
      | [] => exact .inl rfl
      | [b] => exact .inr (Nat.le_refl _)
      | b :: a :: t' =>
        right
        unfold popR
        split
        · simp
        · have := popR_pos p a t'
          omega
    refine ih _ ?_ (.inl (by simp)) (fun ht => ?_)
    · simp only [List.length_cons] at h ⊢
      rcases hp with hp | hp
      · subst hp; simp at h ⊢; omega
      · omega
    · subst ht
      rcases hp with hp | hp
      · subst hp; simp at h
      · simp; omega
where
  popR_pos (p a : Pt) : ∀ t : List Pt, 1 ≤ (popR p (a :: t)).length := by
    intro t
    induction t generalizing a with
    | nil => exact Nat.le_refl _
    | cons b t ih =>
      unfold popR
      split
      · simp
      · exact ih b
/-- the hull of points, in order -/
def hullD (D : List Pt) : List Pt := (rowR [] D).reverse.dropLast ++ (rowR [] D.reverse).reverse.dropLast

end Go.Proofs.Ytoofbfjlgablkaa
