/-
  What each function of package poly answers, and what the reference of its chapter answers: one contract a function, for every float: the answer stands in the relation of its formula to what was given; of the memory that was there nothing has turned.
-/
import Derived.Test.YtfohggiehbplkaaVec
import Derived.Test.YtfohggiehbplkaaXa
import Derived.Test.YtfohggiehbplkaaKnot
import Derived.Below
import Derived.OwnWalk
import Derived.Laws.AppendOwn
import Derived.Lib.SliceRun
import Derived.Laws.MakeOwn
import Derived.WalkKit
import Derived.WalkLawsBesides
import Derived.WalkSpells
import Derived.ProofKit
import Derived.OpenShut
import Derived.Deep.RegionHeld3
namespace Go.Proofs.Ytfohggiehbplkaa
open Go.ChangeShapes Go.WideShapes Go.ChangeAt Go.RowKit
set_option linter.unusedVariables false
set_option linter.unusedSimpArgs false


def rowsL (Q : Nat → RD) (n : Nat) : List Value := (List.range n).flatMap fun i => rc (Q i)
theorem rowsL_snoc (Q : Nat → RD) (n : Nat) : rowsL Q (n + 1) = rowsL Q n ++ rc (Q n) := by
 unfold rowsL; rw [List.range_succ, List.flatMap_append]; simp
theorem rowsL_len (Q : Nat → RD) : ∀ n, (rowsL Q n).length = n * 14
 | 0 => rfl
 | n + 1 => by rw [rowsL_snoc, List.length_append, rowsL_len Q n, show (rc (Q n)).length = 14 from rfl]; omega
theorem rowsL_get (Q : Nat → RD) : ∀ (n i c : Nat), i < n → c < 14 → (rowsL Q n)[i * 14 + c]? = (rc (Q i))[c]?
 | 0, _, _, h, _ => absurd h (Nat.not_lt_zero _)
 | n + 1, i, c, h, hc => by
  rw [rowsL_snoc]
  by_cases g : i < n
  ·rw [List.getElem?_append_left (by rw [rowsL_len]; omega)]
   exact rowsL_get Q n i c g hc
  ·obtain rfl : i = n := by omega
   rw [List.getElem?_append_right (by rw [rowsL_len]; omega), rowsL_len]
   congr 1
   omega
theorem rowsL_one (Q : Nat → RD) (n : Nat) : ∀ u ∈ rowsL Q n, u.oneCell' = true := fun u hu => by
 unfold rowsL at hu
 obtain ⟨i, _, h⟩ := List.mem_flatMap.1 hu
 unfold rc at h
 simp only [List.mem_cons, List.not_mem_nil, or_false] at h
 rcases h with rfl | rfl | rfl | rfl | rfl | rfl | rfl | rfl | rfl | rfl | rfl | rfl | rfl | rfl <;> rfl
theorem rowsL_rw {w : World} {b off n : Nat} {Q : Nat → RD} (h : Rws w b off n Q) : Rw w b off (rowsL Q n) := fun j u hj => by
 have hl : j < n * 14 := by rw [← rowsL_len Q n]; exact (List.getElem?_eq_some_iff.1 hj).1
 have e : j = j / 14 * 14 + j % 14 := by omega
 rw [e, rowsL_get Q n (j / 14) (j % 14) (by omega) (Nat.mod_lt _ (by decide))] at hj
 have h1 := h (j / 14) (by omega) (j % 14) u hj
 rw [Nat.add_assoc, ← e] at h1
 exact h1
theorem rowsL_at {w : World} {b n : Nat} {Q : Nat → RD} {N : List Value} (h : Rw w b 0 (rowsL Q n ++ N)) : Rws w b 0 n Q := fun i hi c u hc => by
 have h14 : c < 14 := (List.getElem?_eq_some_iff.1 hc).1
 have h1 := h (i * 14 + c) u (by rw [List.getElem?_append_left (by rw [rowsL_len]; omega), rowsL_get Q n i c hi h14]; exact hc)
 rw [← Nat.add_assoc] at h1
 exact h1

def stL (Q : Nat → SD) (n : Nat) : List Value := (List.range n).flatMap fun i => sc (Q i)
theorem stL_snoc (Q : Nat → SD) (n : Nat) : stL Q (n + 1) = stL Q n ++ sc (Q n) := by
 unfold stL; rw [List.range_succ, List.flatMap_append]; simp
theorem stL_len (Q : Nat → SD) : ∀ n, (stL Q n).length = n * 5
 | 0 => rfl
 | n + 1 => by rw [stL_snoc, List.length_append, stL_len Q n, show (sc (Q n)).length = 5 from rfl]; omega
theorem stL_get (Q : Nat → SD) : ∀ (n i c : Nat), i < n → c < 5 → (stL Q n)[i * 5 + c]? = (sc (Q i))[c]?
 | 0, _, _, h, _ => absurd h (Nat.not_lt_zero _)
 | n + 1, i, c, h, hc => by
  rw [stL_snoc]
  by_cases g : i < n
  ·rw [List.getElem?_append_left (by rw [stL_len]; omega)]
   exact stL_get Q n i c g hc
  ·obtain rfl : i = n := by omega
   rw [List.getElem?_append_right (by rw [stL_len]; omega), stL_len]
   congr 1
   omega
theorem stL_one (Q : Nat → SD) (n : Nat) : ∀ u ∈ stL Q n, u.oneCell' = true := fun u hu => by
 unfold stL at hu
 obtain ⟨i, _, h⟩ := List.mem_flatMap.1 hu
 unfold sc at h
 simp only [List.mem_cons, List.not_mem_nil, or_false] at h
 rcases h with rfl | rfl | rfl | rfl | rfl <;> rfl
theorem stL_rw {w : World} {b off n : Nat} {Q : Nat → SD} (h : Sts w b off n Q) : Rw w b off (stL Q n) := fun j u hj => by
 have hl : j < n * 5 := by rw [← stL_len Q n]; exact (List.getElem?_eq_some_iff.1 hj).1
 have e : j = j / 5 * 5 + j % 5 := by omega
 rw [e, stL_get Q n (j / 5) (j % 5) (by omega) (Nat.mod_lt _ (by decide))] at hj
 have h1 := h (j / 5) (by omega) (j % 5) u hj
 rw [Nat.add_assoc, ← e] at h1
 exact h1
theorem stL_at {w : World} {b n : Nat} {Q : Nat → SD} {N : List Value} (h : Rw w b 0 (stL Q n ++ N)) : Sts w b 0 n Q := fun i hi c u hc => by
 have h14 : c < 5 := (List.getElem?_eq_some_iff.1 hc).1
 have h1 := h (i * 5 + c) u (by rw [List.getElem?_append_left (by rw [stL_len]; omega), stL_get Q n i c hi h14]; exact hc)
 rw [← Nat.add_assoc] at h1
 exact h1

theorem info_row : (Try.prog.info? 43).map (fun i => (i.zero, i.size, i.bytes)) = some (some (.agg #[.int .i64 0, .int .i64 0, .float .f64 0, .float .f64 0, .float .f64 0, .float .f64 0, .float .f64 0, .float .f64 0, .float .f64 0, .float .f64 0, .float .f64 0, .float .f64 0, .int .i64 0, .float .f64 0]), 14, 112) := by kernel_rfl
theorem info_still : (Try.prog.info? 45).map (fun i => (i.zero, i.size, i.bytes)) = some (some (.agg #[.float .f64 0, .float .f64 0, .float .f64 0, .float .f64 0, .float .f64 0]), 5, 40) := by kernel_rfl
theorem wpList_runX {w : World} {v u v' : Value} {w' : World} {ops : Array Oper} {rest : List Oper} {o : Oper} {a : Act} {Q : Exit → Act → World → Prop} (t : TypeId) (hgd : o.guard = none) (s x : Operand)
  (ho : o.op = .call { callee := .builtin .append, args := #[s, x], argTypes := #[t, t] }) (hv : a.eval s = v) (hx : a.eval x = u) (hrun : (Builtin.append_ #[t, t] o.type #[v, u]).run Try.prog w = .ok v' w')
  (hK : wpList Try.prog ops Q rest (a.put o.dst v') w') : wpList Try.prog ops Q (o :: rest) a w := by
 refine wpList_plain hgd fun K hK' => ?_
 unfold Oper.wp
 simp [execOp, ho, resolve, invoke, builtin, hv, hx, hrun, Result.andThen]
 exact hK' _ _ hK
theorem ownR_zero (sz : Nat) (w : World) (t : TypeId) : OwnR sz w.heap.size (w.alloc (.cells #[] t)) (.slice (some ⟨w.heap.size, 0, none⟩) 0 0) 0 [] :=
 ownR_new (by simp) (Nat.le_refl _) (Nat.le_refl _) (Nat.zero_le _) (by simp) (fun j u h => by simp at h)
theorem own_there {sz base : Nat} {w : World} {g cap n : Nat} {R : List Value} (h : OwnR sz base w (.slice (some ⟨g, 0, none⟩) n cap) n R) : base ≤ g ∧ n ≤ cap ∧ cap ≤ maxLen ∧ Rw w g 0 R ∧ w.there g 0 (n * sz) := by
 rcases h.2 with ⟨h2, _⟩ | ⟨k, c, e, h1, h2, h3, h4, h5, h6⟩
 ·cases h2
 ·injection e with e1 e2 e3
  injection e1 with e1
  injection e1 with e1
  subst e1 e3
  refine ⟨h1, h2, h3, h4, fun j hj => ?_⟩
  rw [Nat.zero_add]
  exact ⟨h5 j (Nat.lt_of_lt_of_le hj (Nat.mul_le_mul_right _ h2)), h6 j⟩

theorem run_app0r (w : World) (ty c g : Nat) (a : Option Addr) : (Builtin.append_ #[30, 30] ty #[.slice (some ⟨g, 0, none⟩) 0 0, .slice a 0 c]).run Try.prog w = .ok (.slice (some ⟨g, 0, none⟩) 0 0) w := by
 obtain ⟨i0, hi, hz0, hz1, hz2⟩ := info_parts info_row
 cases a <;> simp [Builtin.append_, run_underlying Try.underlying30, sizeOf, typeInfo, hi, Builtin.lenOf, Builtin.firstCells, loadCells, loadCellsFrom, storeCells]
/-- rows of one's own -/
def Ownr (w w' : World) (v : Value) (n : Nat) (Q : Nat → RD) : Prop := ∃ g cap sl, v = .slice sl n cap ∧ (n = 0 ∨ sl = some ⟨g, 0, none⟩) ∧ n ≤ cap ∧ cap ≤ maxLen ∧ w.heap.size ≤ g ∧ Rws w' g 0 n Q ∧ w'.there g 0 (n * 14)
set_option maxRecDepth 100000 in
set_option maxHeartbeats 4000000 in
theorem cloneR_w (rb ro rn rc_ : Nat) (rs : Option Addr) (Q : Nat → RD) (w : World) (hrs : rn = 0 ∨ rs = some ⟨rb, ro, none⟩) (hrc : rn ≤ rc_) (hrm : rc_ ≤ maxLen) (hr : Rws w rb ro rn Q) (or_ : ∀ i, i < rn → rok (Q i)) (hlim : rn ≤ 1048576) : Calls Try.prog 115 #[.slice rs rn rc_] w fun e w' => ∃ v, Ownr w w' v rn Q ∧ e = .returned (v) ∧ Bel w w' := by
 have b0 : Bel w (w.alloc (.cells #[] 43)) := bl_alloc (bl_refl w) _ _
 rcases Nat.eq_zero_or_pos rn with hz | hp
 ·subst hz
  cases rs with
  | none =>
   have qs := fun w : World => Go.Lib.run_eql_slice_nil (P := Try.prog) w 30 43 none 0 rc_ 0 0 Try.underlying30
   go_enter Try.func115, Try.ntmps115
   repeat (first | go_values | go_skip | go_guarded | go_step | go_upon | go_back | dsimp only)
   go_ret
   exact ⟨_, ⟨w.heap.size, 0, none, rfl, .inl rfl, Nat.le_refl _, Nat.zero_le _, Nat.le_refl _, fun i hi => by omega, fun j hj => by omega⟩, rfl, bl_refl w⟩
  | some ad =>
   have qs := fun w : World => Go.Lib.run_eql_slice_nil (P := Try.prog) w 30 43 (some ad) 0 rc_ 0 0 Try.underlying30
   go_enter Try.func115, Try.ntmps115
   go_wp2_with (first | (at_builtin; refine wpList_runX 30 rfl (.tmp 5) (.tmp 6) rfl rfl rfl (run_app0r _ _ rc_ w.heap.size (some ad)) ?_))
   go_ret
   exact ⟨_, ⟨w.heap.size, 0, some ⟨w.heap.size, 0, none⟩, rfl, .inl rfl, Nat.le_refl _, Nat.zero_le _, Nat.le_refl _, fun i hi => by omega, fun j hj => by omega⟩, rfl, b0⟩
 ·have e9 : rs = some ⟨rb, ro, none⟩ := by rcases hrs with h | h; omega; exact h
  subst e9
  have qs := fun w : World => Go.Lib.run_eql_slice_nil (P := Try.prog) w 30 43 (some ⟨rb, ro, none⟩) rn rc_ 0 0 Try.underlying30
  obtain ⟨v', w', hr1, hr2, ⟨g, cap, rfl⟩, hr4⟩ := run_appR (P := Try.prog) 30 30 43 Try.underlying30 info_row rfl rb ro rn rc_ (ownR_zero 14 w 43) (rowsL_len Q rn) (rowsL_rw (hr.bel b0)) (rowsL_one Q rn) hp b0.size (by unfold maxLen; omega) (by omega)
  go_enter Try.func115, Try.ntmps115
  go_wp2_with (first | (at_builtin; refine wpList_runX 30 rfl (.tmp 5) (.tmp 6) rfl rfl rfl hr1 ?_))
  go_ret
  simp only [Nat.zero_add, List.nil_append] at hr2
  obtain ⟨g1, g2, g3, g4, g5⟩ := own_there hr2
  exact ⟨_, ⟨g, cap, some ⟨g, 0, none⟩, by simp, .inr rfl, g2, g3, g1, rowsL_at (N := []) (by rwa [List.append_nil]), g5⟩, rfl, hr4 w b0 (Nat.le_refl _)⟩

theorem run_app0s (w : World) (ty c g : Nat) (a : Option Addr) : (Builtin.append_ #[61, 61] ty #[.slice (some ⟨g, 0, none⟩) 0 0, .slice a 0 c]).run Try.prog w = .ok (.slice (some ⟨g, 0, none⟩) 0 0) w := by
 obtain ⟨i0, hi, hz0, hz1, hz2⟩ := info_parts info_still
 cases a <;> simp [Builtin.append_, run_underlying Try.underlying61, sizeOf, typeInfo, hi, Builtin.lenOf, Builtin.firstCells, loadCells, loadCellsFrom, storeCells]
/-- rows of one's own -/
def Owns (w w' : World) (v : Value) (n : Nat) (Q : Nat → SD) : Prop := ∃ g cap sl, v = .slice sl n cap ∧ (n = 0 ∨ sl = some ⟨g, 0, none⟩) ∧ n ≤ cap ∧ cap ≤ maxLen ∧ w.heap.size ≤ g ∧ Sts w' g 0 n Q ∧ w'.there g 0 (n * 5)
set_option maxRecDepth 100000 in
set_option maxHeartbeats 4000000 in
theorem cloneS_w (sb so sn sc_ : Nat) (ss : Option Addr) (S : Nat → SD) (w : World) (hss : sn = 0 ∨ ss = some ⟨sb, so, none⟩) (hsc : sn ≤ sc_) (hsm : sc_ ≤ maxLen) (hs : Sts w sb so sn S) (os : ∀ i, i < sn → sok (S i)) (hlim : sn ≤ 1024) : Calls Try.prog 116 #[.slice ss sn sc_] w fun e w' => ∃ v, Owns w w' v sn S ∧ e = .returned (v) ∧ Bel w w' := by
 have b0 : Bel w (w.alloc (.cells #[] 45)) := bl_alloc (bl_refl w) _ _
 rcases Nat.eq_zero_or_pos sn with hz | hp
 ·subst hz
  cases ss with
  | none =>
   have qs := fun w : World => Go.Lib.run_eql_slice_nil (P := Try.prog) w 61 45 none 0 sc_ 0 0 Try.underlying61
   go_enter Try.func116, Try.ntmps116
   repeat (first | go_values | go_skip | go_guarded | go_step | go_upon | go_back | dsimp only)
   go_ret
   exact ⟨_, ⟨w.heap.size, 0, none, rfl, .inl rfl, Nat.le_refl _, Nat.zero_le _, Nat.le_refl _, fun i hi => by omega, fun j hj => by omega⟩, rfl, bl_refl w⟩
  | some ad =>
   have qs := fun w : World => Go.Lib.run_eql_slice_nil (P := Try.prog) w 61 45 (some ad) 0 sc_ 0 0 Try.underlying61
   go_enter Try.func116, Try.ntmps116
   go_wp2_with (first | (at_builtin; refine wpList_runX 61 rfl (.tmp 5) (.tmp 6) rfl rfl rfl (run_app0s _ _ sc_ w.heap.size (some ad)) ?_))
   go_ret
   exact ⟨_, ⟨w.heap.size, 0, some ⟨w.heap.size, 0, none⟩, rfl, .inl rfl, Nat.le_refl _, Nat.zero_le _, Nat.le_refl _, fun i hi => by omega, fun j hj => by omega⟩, rfl, b0⟩
 ·have e9 : ss = some ⟨sb, so, none⟩ := by rcases hss with h | h; omega; exact h
  subst e9
  have qs := fun w : World => Go.Lib.run_eql_slice_nil (P := Try.prog) w 61 45 (some ⟨sb, so, none⟩) sn sc_ 0 0 Try.underlying61
  obtain ⟨v', w', hr1, hr2, ⟨g, cap, rfl⟩, hr4⟩ := run_appR (P := Try.prog) 61 61 45 Try.underlying61 info_still rfl sb so sn sc_ (ownR_zero 5 w 45) (stL_len S sn) (stL_rw (hs.bel b0)) (stL_one S sn) hp b0.size (by unfold maxLen; omega) (by omega)
  go_enter Try.func116, Try.ntmps116
  go_wp2_with (first | (at_builtin; refine wpList_runX 61 rfl (.tmp 5) (.tmp 6) rfl rfl rfl hr1 ?_))
  go_ret
  simp only [Nat.zero_add, List.nil_append] at hr2
  obtain ⟨g1, g2, g3, g4, g5⟩ := own_there hr2
  exact ⟨_, ⟨g, cap, some ⟨g, 0, none⟩, by simp, .inr rfl, g2, g3, g1, stL_at (N := []) (by rwa [List.append_nil]), g5⟩, rfl, hr4 w b0 (Nat.le_refl _)⟩

end Go.Proofs.Ytfohggiehbplkaa
