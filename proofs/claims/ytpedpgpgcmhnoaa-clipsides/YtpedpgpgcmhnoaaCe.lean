/-
  What each function of package poly answers, and what the reference of its chapter answers: one contract a function, for every float: the answer stands in the relation of its formula to what was given; of the memory that was there nothing has turned.
-/
import Derived.Test.YtpedpgpgcmhnoaaVec
import Derived.Test.YtpedpgpgcmhnoaaCc
import Derived.Test.YtpedpgpgcmhnoaaCd
import Derived.Below
import Derived.WalkKit
import Derived.WalkLawsBesides
import Derived.WalkSpells
import Derived.ProofKit
import Derived.OpenShut
import Derived.Deep.RegionHeld3
namespace Go.Proofs.Ytpedpgpgcmhnoaa
open Go.ChangeShapes Go.WideShapes Go.ChangeAt Go.RowKit
set_option linter.unusedVariables false
set_option linter.unusedSimpArgs false


theorem run_copy_vec (w : World) (ty g c a ao m c2 : Nat) (us vs : Nat → Nat) (hs : Sl w a ao m us vs) (hx : ∀ j, j < m * 2 → (w.cell? ⟨g, j, none⟩).isSome = true) (hf : ∀ o, w.frozen? ⟨g, o, none⟩ = false) :
    (Builtin.copy_ #[27, 27] ty #[.slice (some ⟨g, 0, none⟩) m c, .slice (some ⟨a, ao, none⟩) m c2]).run Try.prog w = .ok (.int .i64 m) (w.setCells g 0 (prRow us vs m)) := by
  obtain ⟨i0, hi, hz0, hz1, hz2⟩ := info_parts info_vec
  have hf1 := run_firstCells_some (P := Try.prog) w 2 m ⟨a, ao, none⟩ m c2 (prRow us vs m) (prRow_length _ _ _) (prRow_cells hs)
  have hst := run_storeCells_cells (P := Try.prog) g 0 (prRow us vs m) 0 w (by rw [prRow_length]; simpa using hx) (fun j _ => hf _) (prRow_one _ _ _)
  simp only [Nat.add_zero] at hst
  simp [Builtin.copy_, run_underlying Try.underlying27, Builtin.lenOf, sizeOf, typeInfo, hi, hz1, hf1, hst, goInt]
/-- a new list, as long as it has room -/
def Fresh (base : Nat) (w : World) (v : Value) (L : List Pt) : Prop := ∃ g, v = .slice (some ⟨g, 0, none⟩) L.length L.length ∧ base ≤ g ∧ Sl w g 0 L.length (px L) (py L) ∧ ∀ o, w.frozen? ⟨g, o, none⟩ = false
theorem Fresh.bel {base : Nat} {w w' : World} {v : Value} {L : List Pt} (h : Fresh base w v L) (g : Bel w w') : Fresh base w' v L := by
  obtain ⟨q, e, h1, h2, h3⟩ := h
  exact ⟨q, e, h1, h2.bel g, fun o => (g.2 _).trans (h3 o)⟩
theorem copied {w W : World} {L : List Pt} {t : TypeId} (B : Bel w W) : Fresh w.heap.size ((W.alloc (.cells (madeCells #[.float .f64 0, .float .f64 0] (L.length * 2)) t)).setCells W.heap.size 0 (prRow (px L) (py L) L.length)) (.slice (some ⟨W.heap.size, 0, none⟩) L.length L.length) L ∧ Bel w ((W.alloc (.cells (madeCells #[.float .f64 0, .float .f64 0] (L.length * 2)) t)).setCells W.heap.size 0 (prRow (px L) (py L) L.length)) := by
  have hz := B.size
  have BA : Bel w (W.alloc (.cells (madeCells #[.float .f64 0, .float .f64 0] (L.length * 2)) t)) := bl_alloc B _ _
  have mo : Mo W.heap.size (W.alloc (.cells (madeCells #[.float .f64 0, .float .f64 0] (L.length * 2)) t)) ((W.alloc (.cells (madeCells #[.float .f64 0, .float .f64 0] (L.length * 2)) t)).setCells W.heap.size 0 (prRow (px L) (py L) L.length)) := (Mo.refl _ _).sets _ _
  have ms := made_sl W t L.length
  have BB := mo.bel w BA hz
  refine ⟨⟨_, rfl, hz, sl_of fun j hj => ?_, fun o => (BB.2 _).trans (fresh_frozen hz)⟩, BB⟩
  have hj' : j < (prRow (px L) (py L) L.length).length := by rw [prRow_length]; exact hj
  rw [World.cell?_setCells_in _ _ _ _ (fun j hj => ?_) j hj', List.getElem?_eq_getElem hj']
  rw [prRow_length] at hj
  obtain ⟨e1, e2⟩ := ms (j / 2) (by omega)
  rcases Nat.mod_two_eq_zero_or_one j with h | h
  · rw [show 0 + j / 2 * 2 = 0 + j by omega] at e1; rw [e1]; rfl
  · rw [show 0 + j / 2 * 2 + 1 = 0 + j by omega] at e2; rw [e2]; rfl
theorem make_vec9 (n : Nat) (hn : n ≤ 16000000000000) (W : World) : (Instr.makeSlice 27 (.int .i64 n) (.int .i64 n)).run Try.prog W = .ok (.slice (some ⟨W.heap.size, 0, none⟩) n n) (W.alloc (.cells (madeCells #[.float .f64 0, .float .f64 0] (n * 2)) 24)) := by
  have h := run_make (P := Try.prog) W 27 24 Try.t24 (.agg #[.float .f64 0, .float .f64 0]) Try.underlying27 (by kernel_rfl) (by kernel_rfl) .i64 .i64 n n (by omega) (by omega) (by show ((16 : Nat) : Int) * n ≤ _; omega) (by omega)
  exact h
theorem listed_d (b off cap : Nat) (L : List Pt) (w : World) (hs : Sl w b off L.length (px L) (py L)) (hp : 0 < L.length) (hn : L.length ≤ 16000000000000) : Calls Try.prog 51 #[.slice (some ⟨b, off, none⟩) L.length cap] w fun e w' => ∃ v, e = .returned v ∧ Fresh w.heap.size w' v L ∧ Bel w w' := by
  have hmk := make_vec9 L.length hn
  have hb0 := hs.lt hp
  have ms := made_sl w 24 L.length
  have hcp := fun ty => run_copy_vec (w.alloc (.cells (madeCells #[.float .f64 0, .float .f64 0] (L.length * 2)) 24)) ty w.heap.size L.length b off L.length cap (px L) (py L) (hs.bel (bl_alloc (bl_refl w) _ _)) (fun j hj => by
      obtain ⟨e1, e2⟩ := ms (j / 2) (by omega)
      rcases Nat.mod_two_eq_zero_or_one j with h | h
      · rw [show 0 + j / 2 * 2 = j by omega] at e1; rw [e1]; rfl
      · rw [show 0 + j / 2 * 2 + 1 = j by omega] at e2; rw [e2]; rfl) (fun o => fz_alloc (fresh_frozen (Nat.le_refl _)))
  obtain ⟨F1, F2⟩ := copied (w := w) (W := w) (L := L) (t := 24) (bl_refl w)
  go_enter Try.func51, Try.ntmps51
  go_wp2
  go_ret
  exact ⟨_, rfl, F1, F2⟩

end Go.Proofs.Ytpedpgpgcmhnoaa
