/-
  What each function of package poly answers, and what the reference of its chapter answers: one contract a function, for every float: the answer stands in the relation of its formula to what was given; of the memory that was there nothing has turned.
-/
import Derived.Test.YtfohggiehbplkaaVec
import Derived.Test.YtfohggiehbplkaaKc
import Derived.Test.YtfohggiehbplkaaApps
import Derived.Test.YtfohggiehbplkaaKnot
import Derived.Below
import Derived.OwnWalk
import Derived.Laws.AppendOwn
import Derived.Lib.SliceRun
import Derived.Laws.MakeOwn
import Derived.WalkKit
import Derived.WalkLawsBesides
import Derived.WalkSpells
import Derived.ProofKit
import Derived.OpenShut
import Derived.Deep.RegionHeld3
namespace Go.Proofs.Ytfohggiehbplkaa
open Go.ChangeShapes Go.WideShapes Go.ChangeAt Go.RowKit
set_option linter.unusedVariables false
set_option linter.unusedSimpArgs false


def ptsL (Q : Nat → PD) (n : Nat) : List Value := (List.range n).flatMap fun i => pc (Q i)
theorem ptsL_snoc (Q : Nat → PD) (n : Nat) : ptsL Q (n + 1) = ptsL Q n ++ pc (Q n) := by
  unfold ptsL; rw [List.range_succ, List.flatMap_append]; simp
theorem ptsL_len (Q : Nat → PD) : ∀ n, (ptsL Q n).length = n * 6
  | 0 => rfl
  | n + 1 => by rw [ptsL_snoc, List.length_append, ptsL_len Q n, show (pc (Q n)).length = 6 from rfl]; omega
theorem ptsL_get (Q : Nat → PD) : ∀ (n i c : Nat), i < n → c < 6 → (ptsL Q n)[i * 6 + c]? = (pc (Q i))[c]?
  | 0, _, _, h, _ => absurd h (Nat.not_lt_zero _)
  | n + 1, i, c, h, hc => by
    rw [ptsL_snoc]
    by_cases g : i < n
    · rw [List.getElem?_append_left (by rw [ptsL_len]; omega)]
      exact ptsL_get Q n i c g hc
    · obtain rfl : i = n := by omega
      rw [List.getElem?_append_right (by rw [ptsL_len]; omega), ptsL_len]
      congr 1
      omega
theorem ptsL_one (Q : Nat → PD) (n : Nat) : ∀ u ∈ ptsL Q n, u.oneCell' = true := fun u hu => by
  unfold ptsL at hu
  obtain ⟨i, _, h⟩ := List.mem_flatMap.1 hu
  unfold pc at h
  simp only [List.mem_cons, List.not_mem_nil, or_false] at h
  rcases h with rfl | rfl | rfl | rfl | rfl | rfl <;> rfl
theorem ptsL_rw {w : World} {b off n : Nat} {Q : Nat → PD} (h : Pts w b off n Q) : Rw w b off (ptsL Q n) := fun j u hj => by
  have hl : j < n * 6 := by rw [← ptsL_len Q n]; exact (List.getElem?_eq_some_iff.1 hj).1
  have e : j = j / 6 * 6 + j % 6 := by omega
  rw [e, ptsL_get Q n (j / 6) (j % 6) (by omega) (Nat.mod_lt _ (by decide))] at hj
  have h1 := h (j / 6) (by omega) (j % 6) u hj
  rw [Nat.add_assoc, ← e] at h1
  exact h1
theorem ptsL_at {w : World} {b n : Nat} {Q : Nat → PD} {N : List Value} (h : Rw w b 0 (ptsL Q n ++ N)) : Pts w b 0 n Q := fun i hi c u hc => by
  have h14 : c < 6 := (List.getElem?_eq_some_iff.1 hc).1
  have h1 := h (i * 6 + c) u (by rw [List.getElem?_append_left (by rw [ptsL_len]; omega), ptsL_get Q n i c hi h14]; exact hc)
  rw [← Nat.add_assoc] at h1
  exact h1

theorem info_point : (Try.prog.info? 39).map (fun i => (i.zero, i.size, i.bytes)) = some (some (.agg #[.float .f64 0, .float .f64 0, .float .f64 0, .int .u32 0, .float .f64 0, .float .f64 0]), 6, 48) := by kernel_rfl
theorem info_row : (Try.prog.info? 43).map (fun i => (i.zero, i.size, i.bytes)) = some (some (.agg #[.int .i64 0, .int .i64 0, .float .f64 0, .float .f64 0, .float .f64 0, .float .f64 0, .float .f64 0, .float .f64 0, .float .f64 0, .float .f64 0, .float .f64 0, .float .f64 0, .int .i64 0, .float .f64 0]), 14, 112) := by kernel_rfl
theorem wpList_runX {w : World} {v u v' : Value} {w' : World} {ops : Array Oper} {rest : List Oper} {o : Oper} {a : Act} {Q : Exit → Act → World → Prop} (t : TypeId) (hgd : o.guard = none) (s x : Operand)
    (ho : o.op = .call { callee := .builtin .append, args := #[s, x], argTypes := #[t, t] }) (hv : a.eval s = v) (hx : a.eval x = u) (hrun : (Builtin.append_ #[t, t] o.type #[v, u]).run Try.prog w = .ok v' w')
    (hK : wpList Try.prog ops Q rest (a.put o.dst v') w') : wpList Try.prog ops Q (o :: rest) a w := by
  refine wpList_plain hgd fun K hK' => ?_
  unfold Oper.wp
  simp [execOp, ho, resolve, invoke, builtin, hv, hx, hrun, Result.andThen]
  exact hK' _ _ hK
theorem ownR_zero (sz : Nat) (w : World) (t : TypeId) : OwnR sz w.heap.size (w.alloc (.cells #[] t)) (.slice (some ⟨w.heap.size, 0, none⟩) 0 0) 0 [] :=
  ownR_new (by simp) (Nat.le_refl _) (Nat.le_refl _) (Nat.zero_le _) (by simp) (fun j u h => by simp at h)
theorem own_there {sz base : Nat} {w : World} {g cap n : Nat} {R : List Value} (h : OwnR sz base w (.slice (some ⟨g, 0, none⟩) n cap) n R) : base ≤ g ∧ n ≤ cap ∧ cap ≤ maxLen ∧ Rw w g 0 R ∧ w.there g 0 (n * sz) := by
  rcases h.2 with ⟨h2, _⟩ | ⟨k, c, e, h1, h2, h3, h4, h5, h6⟩
  · cases h2
  · injection e with e1 e2 e3
    injection e1 with e1
    injection e1 with e1
    subst e1 e3
    refine ⟨h1, h2, h3, h4, fun j hj => ?_⟩
    rw [Nat.zero_add]
    exact ⟨h5 j (Nat.lt_of_lt_of_le hj (Nat.mul_le_mul_right _ h2)), h6 j⟩

theorem run_app0p (w : World) (ty c g : Nat) (a : Option Addr) : (Builtin.append_ #[27, 27] ty #[.slice (some ⟨g, 0, none⟩) 0 0, .slice a 0 c]).run Try.prog w = .ok (.slice (some ⟨g, 0, none⟩) 0 0) w := by
  obtain ⟨i0, hi, hz0, hz1, hz2⟩ := info_parts info_point
  cases a <;> simp [Builtin.append_, run_underlying Try.underlying27, sizeOf, typeInfo, hi, Builtin.lenOf, Builtin.firstCells, loadCells, loadCellsFrom, storeCells]
/-- rows of one's own -/
def Ownp (w w' : World) (v : Value) (n : Nat) (P : Nat → PD) : Prop := ∃ g cap sl, v = .slice sl n cap ∧ (n = 0 ∨ sl = some ⟨g, 0, none⟩) ∧ n ≤ cap ∧ cap ≤ maxLen ∧ w.heap.size ≤ g ∧ Pts w' g 0 n P ∧ w'.there g 0 (n * 6)
set_option maxRecDepth 100000 in
set_option maxHeartbeats 4000000 in
theorem cloneP_w (pb po pn pc_ : Nat) (ps : Option Addr) (P : Nat → PD) (w : World) (hps : pn = 0 ∨ ps = some ⟨pb, po, none⟩) (hpc : pn ≤ pc_) (hpm : pc_ ≤ maxLen) (hp : Pts w pb po pn P) (hlim : pn ≤ 1048576) : Calls Try.prog 49 #[.slice ps pn pc_] w fun e w' => ∃ v, Ownp w w' v pn P ∧ e = .returned (v) ∧ Bel w w' := by
  have b0 : Bel w (w.alloc (.cells #[] 39)) := bl_alloc (bl_refl w) _ _
  rcases Nat.eq_zero_or_pos pn with hz | h0p
  · subst hz
    cases ps with
    | none =>
      have qs := fun w : World => Go.Lib.run_eql_slice_nil (P := Try.prog) w 27 39 none 0 pc_ 0 0 Try.underlying27
      go_enter Try.func49, Try.ntmps49
      repeat (first | go_values | go_skip | go_guarded | go_step | go_upon | go_back | dsimp only)
      go_ret
      exact ⟨_, ⟨w.heap.size, 0, none, rfl, .inl rfl, Nat.le_refl _, Nat.zero_le _, Nat.le_refl _, fun i hi => by omega, fun j hj => by omega⟩, rfl, bl_refl w⟩
    | some ad =>
      have qs := fun w : World => Go.Lib.run_eql_slice_nil (P := Try.prog) w 27 39 (some ad) 0 pc_ 0 0 Try.underlying27
      go_enter Try.func49, Try.ntmps49
      go_wp2_with (first | (at_builtin; refine wpList_runX 27 rfl (.tmp 5) (.tmp 6) rfl rfl rfl (run_app0p _ _ pc_ w.heap.size (some ad)) ?_))
      go_ret
      exact ⟨_, ⟨w.heap.size, 0, some ⟨w.heap.size, 0, none⟩, rfl, .inl rfl, Nat.le_refl _, Nat.zero_le _, Nat.le_refl _, fun i hi => by omega, fun j hj => by omega⟩, rfl, b0⟩
  · have e9 : ps = some ⟨pb, po, none⟩ := by rcases hps with h | h; omega; exact h
    subst e9
    have qs := fun w : World => Go.Lib.run_eql_slice_nil (P := Try.prog) w 27 39 (some ⟨pb, po, none⟩) pn pc_ 0 0 Try.underlying27
    obtain ⟨v', w', hr1, hr2, ⟨g, cap, rfl⟩, hr4⟩ := run_appR (P := Try.prog) 27 27 39 Try.underlying27 info_point rfl pb po pn pc_ (ownR_zero 6 w 39) (ptsL_len P pn) (ptsL_rw (hp.bel b0)) (ptsL_one P pn) h0p b0.size (by unfold maxLen; omega) (by omega)
    go_enter Try.func49, Try.ntmps49
    go_wp2_with (first | (at_builtin; refine wpList_runX 27 rfl (.tmp 5) (.tmp 6) rfl rfl rfl hr1 ?_))
    go_ret
    simp only [Nat.zero_add, List.nil_append] at hr2
    obtain ⟨g1, g2, g3, g4, g5⟩ := own_there hr2
    exact ⟨_, ⟨g, cap, some ⟨g, 0, none⟩, by simp, .inr rfl, g2, g3, g1, ptsL_at (N := []) (by rwa [List.append_nil]), g5⟩, rfl, hr4 w b0 (Nat.le_refl _)⟩


def rc (R : RD) : List Value := [.int .i64 R.ra, .int .i64 R.rb, .float .f64 R.r2, .float .f64 R.r3, .float .f64 R.r4, .float .f64 R.r5, .float .f64 R.r6, .float .f64 R.r7, .float .f64 R.r8, .float .f64 R.r9, .float .f64 R.r10, .float .f64 R.r11, .int .i64 R.ro, .float .f64 R.r13]
/-- rows that lie one behind the other -/
def Rws (w : World) (b off n : Nat) (Q : Nat → RD) : Prop := ∀ i, i < n → w.rangeAt b (off + i * 14) (rc (Q i))
theorem Rws.bel {w w' : World} {b off n : Nat} {Q : Nat → RD} (h : Rws w b off n Q) (g : Bel w w') : Rws w' b off n Q := fun i hi => rng_bel (h i hi) g
theorem there_sub {w : World} {b N o n : Nat} (h : w.there b 0 N) (g : o + n ≤ N) : w.there b o n := fun j hj => by
  have h1 := h (o + j) (by omega)
  rwa [Nat.zero_add] at h1
def kpF (x : Nat) : Nat := bif wkP x then x else 0
/-- the points with the impulses of so many pairs of rows -/
def kpP (P : Nat → PD) (Q : Nat → RD) (m i : Nat) : PD := if i < m then ⟨(P i).x, (P i).y, (P i).dp, (P i).id, kpF (Q (2 * i + 1)).r11, kpF (Q (2 * i)).r11⟩ else P i
theorem kpP_zero (P : Nat → PD) (Q : Nat → RD) : kpP P Q 0 = P := by funext i; unfold kpP; rw [if_neg (Nat.not_lt_zero _)]
theorem kpP_lt {P : Nat → PD} {Q : Nat → RD} {k i : Nat} (h : i ≠ k) : kpP P Q (k + 1) i = kpP P Q k i := by
  unfold kpP
  by_cases g : i < k
  · rw [if_pos g, if_pos (by omega)]
  · rw [if_neg g, if_neg (by omega)]
theorem kpP_at {P : Nat → PD} {Q : Nat → RD} {k : Nat} : kpP P Q (k + 1) k = ⟨(P k).x, (P k).y, (P k).dp, (P k).id, kpF (Q (2 * k + 1)).r11, kpF (Q (2 * k)).r11⟩ := by unfold kpP; rw [if_pos (by omega)]
theorem kpP_not {P : Nat → PD} {Q : Nat → RD} {k : Nat} : kpP P Q k k = P k := by unfold kpP; rw [if_neg (by omega)]
theorem pts_put {W5 W : World} {g n k : Nat} {P : Nat → PD} {Q : Nat → RD} (hk : k < n) (hP : Pts W5 g 0 n (kpP P Q k)) (hd : W.cell? ⟨g, k * 6 + 5, none⟩ = some (.float .f64 (kpF (Q (2 * k)).r11))) (hu : W.cell? ⟨g, k * 6 + 4, none⟩ = some (.float .f64 (kpF (Q (2 * k + 1)).r11))) (hout : ∀ q, q ≠ k * 6 + 5 → q ≠ k * 6 + 4 → W.cell? ⟨g, q, none⟩ = W5.cell? ⟨g, q, none⟩) : Pts W g 0 n (kpP P Q (k + 1)) := fun i hi j v hj => by
  rw [Nat.zero_add]
  have hj6 : j < 6 := (List.getElem?_eq_some_iff.1 hj).1
  have h1 := hP i hi
  rw [Nat.zero_add] at h1
  by_cases e : i = k
  · subst e
    rw [kpP_at] at hj
    rw [kpP_not] at h1
    by_cases e5 : j = 5
    · subst e5; cases hj; exact hd
    · by_cases e4 : j = 4
      · subst e4; cases hj; exact hu
      · rw [hout _ (by omega) (by omega)]
        refine h1 j v ?_
        rcases (show j = 0 ∨ j = 1 ∨ j = 2 ∨ j = 3 by omega) with rfl | rfl | rfl | rfl <;> exact hj
  · rw [kpP_lt e] at hj
    rw [hout _ (by omega) (by omega)]
    exact h1 j v hj
def rwN (T : TD) (n : Nat) : Nat := bif T.ts then 0 else 2 * n
def mN (T : TD) (n : Nat) : Nat := bif T.ts then 0 else n
theorem rw_mN (T : TD) (n : Nat) : rwN T n = 2 * mN T n := by unfold rwN mN; cases T.ts <;> rfl
theorem mN_le (T : TD) (n : Nat) : mN T n ≤ n := by unfold mN; cases T.ts <;> simp
theorem kept_w (x : Nat) (w : World) : Calls Try.prog 50 #[.float .f64 x] w fun e w' => e = .returned (.float .f64 (kpF x)) ∧ w' = w := by
  unfold kpF wkP
  cases h : withinK .f64 x 4787326403894837248
  all_goals
    go_enter Try.func50, Try.ntmps50
    repeat (first | (go_at_call 93; (with_reducible refine (within_6 _ _ _).mono ?_); rintro e w' ⟨rfl, rfl⟩; rw [h]) | go_values | go_skip | go_guarded | go_step | go_upon | go_back | dsimp only)
    go_ret
    exact ⟨rfl, rfl⟩

set_option maxRecDepth 100000 in
set_option maxHeartbeats 4000000 in
theorem rowsOf_w (T : TD) (ps : Option Addr) (pn pc_ : Nat) (w : World) (hn : pn ≤ 8) : Calls Try.prog 48 #[.agg #[.int .i64 T.ta, .int .i64 T.tp, .int .i64 T.tb, .int .i64 T.tq, .bool T.ts, .float .f64 T.tx, .float .f64 T.ty, .slice ps pn pc_]] w fun e w' => e = .returned (.int .i64 (rwN T pn : Nat)) ∧ Bel w w' := by
  have hA : (w.alloc (.cells #[.int .i64 T.ta, .int .i64 T.tp, .int .i64 T.tb, .int .i64 T.tq, .bool T.ts, .float .f64 T.tx, .float .f64 T.ty, .slice ps pn pc_] 29)).rangeAt w.heap.size 0 [.int .i64 T.ta, .int .i64 T.tp, .int .i64 T.tb, .int .i64 T.tq, .bool T.ts, .float .f64 T.tx, .float .f64 T.ty, .slice ps pn pc_] := rng_new w [.int .i64 T.ta, .int .i64 T.tp, .int .i64 T.tb, .int .i64 T.tq, .bool T.ts, .float .f64 T.tx, .float .f64 T.ty, .slice ps pn pc_] 29
  have BB : Bel w (w.alloc (.cells #[.int .i64 T.ta, .int .i64 T.tp, .int .i64 T.tb, .int .i64 T.tq, .bool T.ts, .float .f64 T.tx, .float .f64 T.ty, .slice ps pn pc_] 29)) := bl_alloc (bl_refl w) _ _
  have k4 : (w.alloc (.cells #[.int .i64 T.ta, .int .i64 T.tp, .int .i64 T.tb, .int .i64 T.tq, .bool T.ts, .float .f64 T.tx, .float .f64 T.ty, .slice ps pn pc_] 29)).cell? ⟨w.heap.size, 4, none⟩ = some (.bool T.ts) := hA 4 _ rfl
  have k7 : (w.alloc (.cells #[.int .i64 T.ta, .int .i64 T.tp, .int .i64 T.tb, .int .i64 T.tq, .bool T.ts, .float .f64 T.tx, .float .f64 T.ty, .slice ps pn pc_] 29)).cell? ⟨w.heap.size, 7, none⟩ = some (.slice ps pn pc_) := hA 7 _ rfl
  clear hA
  unfold rwN
  cases h : T.ts
  · rw [h] at k4 k7 BB
    have e2 : ((2 * pn : Nat) : Int) = 2 * (pn : Int) := by omega
    go_enter Try.func48, Try.ntmps48
    repeat (first | go_values | go_skip | go_guarded | go_step | go_upon | go_back | dsimp only)
    go_ret
    refine ⟨?_, BB⟩
    simp only [cond_false]
    rw [e2]
    rfl
  · rw [h] at k4 k7 BB
    go_enter Try.func48, Try.ntmps48
    repeat (first | go_values | go_skip | go_guarded | go_step | go_upon | go_back | dsimp only)
    go_ret
    exact ⟨rfl, BB⟩

end Go.Proofs.Ytfohggiehbplkaa
