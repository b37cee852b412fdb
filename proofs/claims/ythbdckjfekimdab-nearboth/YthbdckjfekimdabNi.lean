/-
  What each function of package poly answers, and what the reference of its chapter answers: one contract a function, for every float: the answer stands in the relation of its formula to what was given; of the memory that was there nothing has turned.
-/
import Derived.Test.YthbdckjfekimdabVec
import Derived.Test.YthbdckjfekimdabNh
import Derived.Below
import Derived.WalkKit
import Derived.WalkLawsBesides
import Derived.WalkSpells
import Derived.ProofKit
import Derived.OpenShut
import Derived.Deep.RegionHeld3
namespace Go.Proofs.Ythbdckjfekimdab
open Go.ChangeShapes Go.WideShapes Go.ChangeAt Go.RowKit
set_option linter.unusedVariables false
set_option linter.unusedSimpArgs false


theorem lay3_at (W : World) (a b c d e p q : Value) (t t1 t2 : TypeId) : (((W.alloc (.cells #[a, b, c, d, e] t)).alloc (.cells #[p] t1)).alloc (.cells #[q] t2)).cell? ⟨W.heap.size, 0, none⟩ = some a ∧ (((W.alloc (.cells #[a, b, c, d, e] t)).alloc (.cells #[p] t1)).alloc (.cells #[q] t2)).cell? ⟨W.heap.size, 1, none⟩ = some b ∧ (((W.alloc (.cells #[a, b, c, d, e] t)).alloc (.cells #[p] t1)).alloc (.cells #[q] t2)).cell? ⟨W.heap.size, 2, none⟩ = some c ∧ (((W.alloc (.cells #[a, b, c, d, e] t)).alloc (.cells #[p] t1)).alloc (.cells #[q] t2)).cell? ⟨W.heap.size, 3, none⟩ = some d ∧ (((W.alloc (.cells #[a, b, c, d, e] t)).alloc (.cells #[p] t1)).alloc (.cells #[q] t2)).cell? ⟨W.heap.size, 4, none⟩ = some e ∧ (((W.alloc (.cells #[a, b, c, d, e] t)).alloc (.cells #[p] t1)).alloc (.cells #[q] t2)).cell? ⟨W.heap.size + 1 + 1, 0, none⟩ = some q ∧ (((W.alloc (.cells #[a, b, c, d, e] t)).alloc (.cells #[p] t1)).alloc (.cells #[q] t2)).cell? ⟨W.heap.size + 1, 0, none⟩ = some p := by
  have e1 : (W.alloc (.cells #[a, b, c, d, e] t)).heap.size = W.heap.size + 1 := World.size_alloc _ _
  have e2 : ((W.alloc (.cells #[a, b, c, d, e] t)).alloc (.cells #[p] t1)).heap.size = W.heap.size + 1 + 1 := by rw [World.size_alloc, e1]
  refine ⟨?_, ?_, ?_, ?_, ?_, ?_, ?_⟩
  · exact up_alloc (up_alloc (by rw [World.cell?_alloc_new]; rfl))
  · exact up_alloc (up_alloc (by rw [World.cell?_alloc_new]; rfl))
  · exact up_alloc (up_alloc (by rw [World.cell?_alloc_new]; rfl))
  · exact up_alloc (up_alloc (by rw [World.cell?_alloc_new]; rfl))
  · exact up_alloc (up_alloc (by rw [World.cell?_alloc_new]; rfl))
  · rw [← e2, World.cell?_alloc_new]; rfl
  · refine up_alloc ?_
    rw [← e1, World.cell?_alloc_new]; rfl
theorem inf10 (w : World) : Calls Try.prog 58 #[.int .i64 1] w fun e w' => e = .returned (.float .f64 9218868437227405312) ∧ w' = w := by
  have hb := from_int
  go_enter Try.func58, Try.ntmps58
  go_wp2
  go_ret
  exact ⟨rfl, rfl⟩
theorem nowhere_n (w : World) : Calls Try.prog 49 #[] w fun e w' => e = .returned (.agg #[.float .f64 9218868437227405312, .float .f64 0, .float .f64 0, .float .f64 0, .float .f64 0]) ∧ Bel w w' := by
  go_enter Try.func49, Try.ntmps49
  go_wp2_with (first | (go_at_call 58; refine (inf10 _).mono ?_; rintro e w' ⟨rfl, rfl⟩))
  refine bodyPost_ret (v := .agg #[.float .f64 9218868437227405312, .float .f64 0, .float .f64 0, .float .f64 0, .float .f64 0]) (by simp [results, Try.results49, go_sem] <;> (first | exact ⟨rfl, rfl, rfl, rfl, rfl⟩ | rfl)) rfl ⟨rfl, ?_⟩
  repeat (first | exact bl_refl _ | assumption | apply bl_drewN | apply bl_drew | apply bl_alloc | refine bl_set ?_ (by simp <;> omega) | refine bl_trans ?_ (by assumption))


end Go.Proofs.Ythbdckjfekimdab
