/-
  What each function of package poly answers, and what the reference of its chapter answers: one contract a function, for every float: the answer stands in the relation of its formula to what was given; of the memory that was there nothing has turned.
-/
import Derived.Test.YtfjlonnmhioleaaVec
import Derived.Test.YtfjlonnmhioleaaJk
import Derived.Test.YtfjlonnmhioleaaJg
import Derived.Test.YtfjlonnmhioleaaJh
import Derived.Test.YtfjlonnmhioleaaApps
import Derived.Below
import Derived.OwnWalk
import Derived.Laws.AppendOwn
import Derived.WalkKit
import Derived.WalkLawsBesides
import Derived.WalkSpells
import Derived.ProofKit
import Derived.OpenShut
import Derived.Deep.RegionHeld3
namespace Go.Proofs.Ytfjlonnmhioleaa
open Go.ChangeShapes Go.WideShapes Go.ChangeAt Go.RowKit
set_option linter.unusedVariables false
set_option linter.unusedSimpArgs false


def rowsL (Q : Nat → RD) (n : Nat) : List Value := (List.range n).flatMap fun i => rv (Q i)
theorem rowsL_snoc (Q : Nat → RD) (n : Nat) : rowsL Q (n + 1) = rowsL Q n ++ rv (Q n) := by
  unfold rowsL; rw [List.range_succ, List.flatMap_append]; simp
theorem rowsL_len (Q : Nat → RD) : ∀ n, (rowsL Q n).length = n * 14
  | 0 => rfl
  | n + 1 => by rw [rowsL_snoc, List.length_append, rowsL_len Q n, show (rv (Q n)).length = 14 from rfl]; omega
theorem rowsL_get (Q : Nat → RD) : ∀ (n i c : Nat), i < n → c < 14 → (rowsL Q n)[i * 14 + c]? = (rv (Q i))[c]?
  | 0, _, _, h, _ => absurd h (Nat.not_lt_zero _)
  | n + 1, i, c, h, hc => by
    rw [rowsL_snoc]
    by_cases g : i < n
    · rw [List.getElem?_append_left (by rw [rowsL_len]; omega)]
      exact rowsL_get Q n i c g hc
    · obtain rfl : i = n := by omega
      rw [List.getElem?_append_right (by rw [rowsL_len]; omega), rowsL_len]
      congr 1
      omega
theorem rowsL_one (Q : Nat → RD) (n : Nat) : ∀ u ∈ rowsL Q n, u.oneCell' = true := fun u hu => by
  unfold rowsL at hu
  obtain ⟨i, _, h⟩ := List.mem_flatMap.1 hu
  unfold rv at h
  simp only [List.mem_cons, List.not_mem_nil, or_false] at h
  rcases h with rfl | rfl | rfl | rfl | rfl | rfl | rfl | rfl | rfl | rfl | rfl | rfl | rfl | rfl <;> rfl
theorem rows_rw {w : World} {b off n : Nat} {Q : Nat → RD} (h : Rws w b off n Q) : Rw w b off (rowsL Q n) := fun j u hj => by
  have hl : j < n * 14 := by rw [← rowsL_len Q n]; exact (List.getElem?_eq_some_iff.1 hj).1
  have e : j = j / 14 * 14 + j % 14 := by omega
  rw [e, rowsL_get Q n (j / 14) (j % 14) (by omega) (Nat.mod_lt _ (by decide))] at hj
  have h1 := h (j / 14) (by omega) (j % 14) u hj
  rw [Nat.add_assoc, ← e] at h1
  exact h1
theorem rw_rows {w : World} {b n : Nat} {Q : Nat → RD} {N : List Value} (h : Rw w b 0 (rowsL Q n ++ N)) : Rws w b 0 n Q := fun i hi c u hc => by
  have h14 : c < 14 := (List.getElem?_eq_some_iff.1 hc).1
  have h1 := h (i * 14 + c) u (by rw [List.getElem?_append_left (by rw [rowsL_len]; omega), rowsL_get Q n i c hi h14]; exact hc)
  rw [← Nat.add_assoc] at h1
  exact h1
theorem rw_last {w : World} {b n : Nat} {Q : Nat → RD} {v : Value} {N : List Value} (h : Rw w b 0 (rowsL Q n ++ v :: N)) : w.cell? ⟨b, n * 14, none⟩ = some v := by
  have h1 := h (n * 14) v (by rw [List.getElem?_append_right (by rw [rowsL_len]; omega), rowsL_len]; simp)
  rw [Nat.zero_add] at h1
  exact h1
theorem info_row : (Try.prog.info? 36).map (fun i => (i.zero, i.size, i.bytes)) = some (some (.agg #[.int .i64 0, .int .i64 0, .float .f64 0, .float .f64 0, .float .f64 0, .float .f64 0, .float .f64 0, .float .f64 0, .float .f64 0, .float .f64 0, .float .f64 0, .float .f64 0, .int .i64 0, .float .f64 0]), 14, 112) := by kernel_rfl
theorem run_app0r (w : World) (ty c : Nat) (a : Option Addr) : (Builtin.append_ #[34, 34] ty #[.slice none 0 0, .slice a 0 c]).run Try.prog w = .ok (.slice none 0 0) w := by
  obtain ⟨i0, hi, hz0, hz1, hz2⟩ := info_parts info_row
  cases a <;> simp [Builtin.append_, run_underlying Try.underlying34, sizeOf, typeInfo, hi, Builtin.lenOf, Builtin.firstCells, loadCells, loadCellsFrom, storeCells]
theorem wpList_runr {w : World} {v u v' : Value} {w' : World} {ops : Array Oper} {rest : List Oper} {o : Oper} {a : Act} {Q : Exit → Act → World → Prop} (hgd : o.guard = none) (s x : Operand)
    (ho : o.op = .call { callee := .builtin .append, args := #[s, x], argTypes := #[34, 34] }) (hv : a.eval s = v) (hx : a.eval x = u) (hrun : ∀ ty, (Builtin.append_ #[34, 34] ty #[v, u]).run Try.prog w = .ok v' w')
    (hK : wpList Try.prog ops Q rest (a.put o.dst v') w') : wpList Try.prog ops Q (o :: rest) a w := by
  refine wpList_plain hgd fun K hK' => ?_
  unfold Oper.wp
  simp [execOp, ho, resolve, invoke, builtin, hv, hx, hrun, Result.andThen]
  exact hK' _ _ hK
theorem wpList_gload {P : Program} {ops : Array Oper} {rest : List Oper} {op : Oper} {a : Act} {w : World} {Q : Exit → Act → World → Prop} (hw : Region.wanted op (yielded ops a.tmps) = true) (ty : TypeId) (x : Operand) (ho : op.op = .load ty x) (b o : Nat) (hx : a.eval x = .pointer (some ⟨b, o, none⟩)) (cs : List Value) (d : TypeDesc) (hc : w.rangeAt b o cs) (hu : P.underlying ty = some d) (hd : d.isRow = true) (hi : (P.info? ty).map (·.size) = some cs.length)
    (h : wpList P ops Q rest (a.put op.dst (.agg cs.toArray)) w) : wpList P ops Q (op :: rest) a w :=
  wpList_step fun K hK => by rw [if_pos hw]; exact wp_load_mid ty x ho b o hx cs d hc hu hd hi (hK _ _ h)
theorem one77 : ∀ u ∈ ([.int .i64 77, .int .i64 0, .float .f64 0, .float .f64 0, .float .f64 0, .float .f64 0, .float .f64 0, .float .f64 0, .float .f64 0, .float .f64 0, .float .f64 0, .float .f64 0, .int .i64 0, .float .f64 0] : List Value), u.oneCell' = true := by
  intro u hu
  simp only [List.mem_cons, List.not_mem_nil, or_false] at hu
  rcases hu with rfl | rfl | rfl | rfl | rfl | rfl | rfl | rfl | rfl | rfl | rfl | rfl | rfl | rfl <;> rfl
theorem put22 (b : Nat) (c0 c1 c2 c3 c4 c5 c6 c7 c8 c9 c10 c11 c12 c13 c14 c15 c16 c17 c18 c19 c20 c21 : Value) (W : World) : putN b 22 (.agg #[c0, c1, c2, c3, c4, c5, c6, c7, c8, c9, c10, c11, c12, c13, c14, c15, c16, c17, c18, c19, c20, c21]) W = W.setCells b 0 [c0, c1, c2, c3, c4, c5, c6, c7, c8, c9, c10, c11, c12, c13, c14, c15, c16, c17, c18, c19, c20, c21] := by
  simp only [putN, World.setCells]
  rfl

end Go.Proofs.Ytfjlonnmhioleaa
