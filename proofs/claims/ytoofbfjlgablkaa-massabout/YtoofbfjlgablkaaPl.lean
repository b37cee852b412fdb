/-
  What each function of package poly answers, and what the reference of its chapter answers: one contract a function, for every float: the answer stands in the relation of its formula to what was given; of the memory that was there nothing has turned.
-/
import Derived.Test.YtoofbfjlgablkaaVec
import Derived.Test.YtoofbfjlgablkaaPk
import Derived.Below
import Derived.OwnWalk
import Derived.WalkMore
import Derived.WalkKit
import Derived.WalkLawsBesides
import Derived.WalkSpells
import Derived.ProofKit
import Derived.OpenShut
import Derived.Deep.RegionHeld3
namespace Go.Proofs.Ytoofbfjlgablkaa
open Go.ChangeShapes Go.WideShapes Go.ChangeAt Go.RowKit
set_option linter.unusedVariables false
set_option linter.unusedSimpArgs false


theorem wpList_run {w : World} {v u v' : Value} {w' : World} {ops : Array Oper} {rest : List Oper} {o : Oper} {a : Act} {Q : Exit → Act → World → Prop} (hgd : o.guard = none) (s x : Operand)
    (ho : o.op = .call { callee := .builtin .append, args := #[s, x], argTypes := #[42, 42] }) (hv : a.eval s = v) (hx : a.eval x = u) (hrun : ∀ ty, (Builtin.append_ #[42, 42] ty #[v, u]).run Try.prog w = .ok v' w')
    (hK : wpList Try.prog ops Q rest (a.put o.dst v') w') : wpList Try.prog ops Q (o :: rest) a w := by
  refine wpList_plain hgd fun K hK' => ?_
  unfold Oper.wp
  simp [execOp, ho, resolve, invoke, builtin, hv, hx, hrun, Result.andThen]
  exact hK' _ _ hK
theorem one_sl (W : World) (p : Pt) : Sl (W.alloc (.cells #[.float .f64 p.1, .float .f64 p.2] 26)) W.heap.size 0 1 (px [p]) (py [p]) := by
  intro i hi
  rw [show i = 0 by omega]
  exact cell_own rfl _ _ _
/-- points of a size -/
def GdL (L : List Pt) : Prop := ∀ p, p ∈ L → Bd 40 p.1 ∧ Bd 40 p.2
theorem GdL.gd {L : List Pt} (h : GdL L) : Gd (px L) (py L) L.length := fun i hi => h _ (pt_mem hi)
theorem rev_last (p : Pt) (r : List Pt) : pt (p :: r).reverse r.length = p := by
  rw [List.reverse_cons]
  have h := pt_end r.reverse p
  rwa [List.length_reverse] at h
theorem rev_prev (p q : Pt) (r : List Pt) : pt (p :: q :: r).reverse r.length = q := by
  rw [List.reverse_cons, pt_app1 _ _ (by simp), rev_last]
theorem lean_rev (a b p : Pt) (t : List Pt) : crK (wX (px (b :: a :: t).reverse) (t.length + 2) t.length) (wX (py (b :: a :: t).reverse) (t.length + 2) t.length) (Dv .sub p.1 (px (b :: a :: t).reverse t.length)) (Dv .sub p.2 (py (b :: a :: t).reverse t.length)) = leanP a b p := by
  unfold wX leanP px py
  rw [Nat.mod_eq_of_lt (by omega), rev_prev]
  have h := rev_last b (a :: t)
  rw [List.length_cons] at h
  rw [h]
theorem push_rel {g off N m : Nat} {w Wq : World} {D : List Pt} {p : Pt} (hD : D.length = m) (hm : m < N) (hM : Mo g w Wq) (hS : Sl Wq g off m (px D) (py D)) (hgq : g < Wq.heap.size) (OUT : ∀ o, (o < off ∨ off + N * 2 ≤ o) → Wq.cell? ⟨g, o, none⟩ = w.cell? ⟨g, o, none⟩) (EX : ∀ j, j < N * 2 → (Wq.cell? ⟨g, off + j, none⟩).isSome = true) :
    Mo g w (((Wq.alloc (.cells #[.float .f64 p.1, .float .f64 p.2] 26)).setCell ⟨g, off + m * 2, none⟩ (.float .f64 p.1)).setCell ⟨g, off + m * 2 + 1, none⟩ (.float .f64 p.2)) ∧
    Sl (((Wq.alloc (.cells #[.float .f64 p.1, .float .f64 p.2] 26)).setCell ⟨g, off + m * 2, none⟩ (.float .f64 p.1)).setCell ⟨g, off + m * 2 + 1, none⟩ (.float .f64 p.2)) g off (m + 1) (px (D ++ [p])) (py (D ++ [p])) ∧
    (∀ o, (o < off ∨ off + N * 2 ≤ o) → (((Wq.alloc (.cells #[.float .f64 p.1, .float .f64 p.2] 26)).setCell ⟨g, off + m * 2, none⟩ (.float .f64 p.1)).setCell ⟨g, off + m * 2 + 1, none⟩ (.float .f64 p.2)).cell? ⟨g, o, none⟩ = w.cell? ⟨g, o, none⟩) ∧
    ∀ j, j < N * 2 → ((((Wq.alloc (.cells #[.float .f64 p.1, .float .f64 p.2] 26)).setCell ⟨g, off + m * 2, none⟩ (.float .f64 p.1)).setCell ⟨g, off + m * 2 + 1, none⟩ (.float .f64 p.2)).cell? ⟨g, off + j, none⟩).isSome = true := by
  have B := bl_alloc (bl_refl Wq) #[.float .f64 p.1, .float .f64 p.2] 26
  refine ⟨((hM.on B).set).set, Sl.put hD (hS.bel B) (some_bel B (EX _ (by omega))) (by rw [Nat.add_assoc]; exact some_bel B (EX _ (by omega))), fun o ho => ?_, fun j hj => some_set (some_set (some_bel B (EX j hj)))⟩
  rw [far_off (by omega), far_off (by omega)]
  exact ((bcell B).1 g o hgq).trans (OUT o ho)
theorem push_rel2 {g off N m : Nat} {w Wq : World} {D : List Pt} {p : Pt} (hD : D.length = m) (hm : m < N) (hM : Mo g w Wq) (hS : Sl Wq g off m (px D) (py D)) (hgq : g < Wq.heap.size) (OUT : ∀ o, (o < off ∨ off + N * 2 ≤ o) → Wq.cell? ⟨g, o, none⟩ = w.cell? ⟨g, o, none⟩) (EX : ∀ j, j < N * 2 → (Wq.cell? ⟨g, off + j, none⟩).isSome = true) :
    Mo g w (((Wq.setCell ⟨g, off + m * 2, none⟩ (.float .f64 p.1)).setCell ⟨g, off + m * 2 + 1, none⟩ (.float .f64 p.2)).alloc (.cells #[.float .f64 p.1, .float .f64 p.2] 26)) ∧
    Sl (((Wq.setCell ⟨g, off + m * 2, none⟩ (.float .f64 p.1)).setCell ⟨g, off + m * 2 + 1, none⟩ (.float .f64 p.2)).alloc (.cells #[.float .f64 p.1, .float .f64 p.2] 26)) g off (m + 1) (px (D ++ [p])) (py (D ++ [p])) ∧
    (∀ o, (o < off ∨ off + N * 2 ≤ o) → (((Wq.setCell ⟨g, off + m * 2, none⟩ (.float .f64 p.1)).setCell ⟨g, off + m * 2 + 1, none⟩ (.float .f64 p.2)).alloc (.cells #[.float .f64 p.1, .float .f64 p.2] 26)).cell? ⟨g, o, none⟩ = w.cell? ⟨g, o, none⟩) ∧
    ∀ j, j < N * 2 → ((((Wq.setCell ⟨g, off + m * 2, none⟩ (.float .f64 p.1)).setCell ⟨g, off + m * 2 + 1, none⟩ (.float .f64 p.2)).alloc (.cells #[.float .f64 p.1, .float .f64 p.2] 26)).cell? ⟨g, off + j, none⟩).isSome = true := by
  have B := bl_alloc (bl_refl ((Wq.setCell ⟨g, off + m * 2, none⟩ (.float .f64 p.1)).setCell ⟨g, off + m * 2 + 1, none⟩ (.float .f64 p.2))) #[.float .f64 p.1, .float .f64 p.2] 26
  refine ⟨((hM.set).set).on B, (Sl.put hD hS (EX _ (by omega)) (by rw [Nat.add_assoc]; exact EX _ (by omega))).bel B, fun o ho => ?_, fun j hj => some_bel B (some_set (some_set (EX j hj)))⟩
  rw [(bcell B).1 g o (by simpa [World.setCell] using hgq), far_off (by omega), far_off (by omega)]
  exact OUT o ho

end Go.Proofs.Ytoofbfjlgablkaa
