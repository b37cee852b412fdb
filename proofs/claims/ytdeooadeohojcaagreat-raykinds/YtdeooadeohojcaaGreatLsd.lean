/-
  Plain facts on floats, more: rounding to the nearest rung, sums and products of finite floats, signs turned. No program is named here.
-/
import Derived.Test.YtdeooadeohojcaaGreatLsb
namespace Go.Proofs.YtdeooadeohojcaaGreat
open Ieee Go.RowKit

def But (g : Nat) (w w' : World) : Prop := w.heap.size ≤ w'.heap.size ∧ (∀ b o, b < w.heap.size → b ≠ g → w'.cell? ⟨b, o, none⟩ = w.cell? ⟨b, o, none⟩) ∧ ∀ a, w'.frozen? a = w.frozen? a
theorem But.trans {g : Nat} {a b c : World} (h : But g a b) (k : But g b c) : But g a c :=
  ⟨Nat.le_trans h.1 k.1, fun x o hx hn => (k.2.1 x o (Nat.lt_of_lt_of_le hx h.1) hn).trans (h.2.1 x o hx hn), fun x => (k.2.2 x).trans (h.2.2 x)⟩
theorem Bel.but {g : Nat} {w w' : World} (h : Bel w w') : But g w w' := ⟨h.size, fun b o hb _ => (bcell h).1 b o hb, h.2⟩
theorem But.keep {g : Nat} {w w' : World} (h : But g w w') {b o : Nat} {v : Value} (hc : w.cell? ⟨b, o, none⟩ = some v) (hn : b ≠ g) : w'.cell? ⟨b, o, none⟩ = some v :=
  (h.2.1 b o (World.block_lt_of_cell? _ _ hc) hn).trans hc

theorem UnitR.yes {ax ay x y : Nat} {b : Bool} {W : Vp} (h : UnitR ax ay x y b) (hw : isP ax ay W) : b = (ltK .f64 0 (lnF W) && finK .f64 (lnF W)) ∧ (b = true → isP x y (oF .quo W.1 (lnF W), oF .quo W.2 (lnF W))) := by
  obtain ⟨n, h1, h2, h3⟩ := h
  have hn := h1.is hw
  have e1 : bitsK ax = W.1 := by rw [← hw.2.2]; rfl
  have e2 : bitsK ay = W.2 := by rw [← hw.2.2]; rfl
  refine ⟨by rw [h2, lt0_is hn, fin_n, hn.2], fun hb => ?_⟩
  rw [hb, if_pos rfl] at h3
  refine ⟨h3.1.1, h3.2.1, ?_⟩
  unfold nP
  rw [res_n h3.1, res_n h3.2, hn.2, e1, e2]
end Go.Proofs.YtdeooadeohojcaaGreat
