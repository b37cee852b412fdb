/-
  Plain facts on floats, more: rounding to the nearest rung, sums and products of finite floats, signs turned. No program is named here.
-/
import Derived.Test.YtnfhedmlifjlmaaStj
namespace Go.Proofs.Ytnfhedmlifjlmaa
open Ieee Go.RowKit
set_option linter.unusedSimpArgs false
set_option linter.unusedVariables false

/-! ### The greatest store as it is filled -/
structure Fill (s : Ss) (k : Nat) : Prop where
  mo : s.most = 16384
  ln : s.ln = k
  U : s.U = List.replicate k 1
  L : s.L = List.replicate k true
theorem Fill.start : Fill ⟨16384, 0, 0, [], [], []⟩ 0 := ⟨rfl, rfl, rfl, rfl⟩
theorem Fill.next {s : Ss} {k : Nat} (h : Fill s k) : NextIs s k :=
  ⟨by rw [h.U]; simp, fun i hi => .inl (by rw [h.L, List.getElem?_replicate, if_pos hi]), fun hlt => by rw [h.U] at hlt; simp at hlt⟩
theorem Fill.use {s : Ss} {k : Nat} (h : Fill s k) : s.U.getD k 0 + 1 = 1 := by
  rw [h.U, List.getD_eq_getElem?_getD, List.getElem?_replicate, if_neg (by omega)]; rfl
theorem Fill.put {s : Ss} {k : Nat} (h : Fill s k) (v : Value) : Fill (putS s k v) (k + 1) := by
  have hn : ¬ k < s.U.length := by rw [h.U]; simp
  refine ⟨h.mo, by show s.ln + 1 = k + 1; rw [h.ln], ?_, ?_⟩
  · show (if k < s.U.length then _ else s.U ++ [1]) = _
    rw [if_neg hn, h.U, List.replicate_succ']
  · show (if k < s.U.length then _ else s.L ++ [true]) = _
    rw [if_neg hn, h.L, List.replicate_succ']
theorem Sto.apart {w w' : World} {m : Sm} {s : Ss} {F F' : List Nat} (h : Sto w m s) (f : Fr F F' w w') (hn : ∀ k ∈ m.F, k ∉ F) : Sto w' m s ∧ ∀ k ∈ m.F, k ∉ F' :=
  ⟨h.fr f hn, fun k hk => f.away (h.sz k hk) (hn k hk)⟩
end Go.Proofs.Ytnfhedmlifjlmaa
