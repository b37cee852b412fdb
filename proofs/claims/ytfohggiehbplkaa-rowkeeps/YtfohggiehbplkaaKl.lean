/-
  What each function of package poly answers, and what the reference of its chapter answers: one contract a function, for every float: the answer stands in the relation of its formula to what was given; of the memory that was there nothing has turned.
-/
import Derived.Test.YtfohggiehbplkaaVec
import Derived.Test.YtfohggiehbplkaaKk
import Derived.Test.YtfohggiehbplkaaKi
import Derived.Below
import Derived.WalkKit
import Derived.WalkLawsBesides
import Derived.WalkSpells
import Derived.ProofKit
import Derived.OpenShut
import Derived.Deep.RegionHeld3
namespace Go.Proofs.Ytfohggiehbplkaa
open Go.ChangeShapes Go.WideShapes Go.ChangeAt Go.RowKit
set_option linter.unusedVariables false
set_option linter.unusedSimpArgs false


def rowsL (Q : Nat → RD) (n : Nat) : List Value := (List.range n).flatMap fun i => rc (Q i)
theorem rowsL_snoc (Q : Nat → RD) (n : Nat) : rowsL Q (n + 1) = rowsL Q n ++ rc (Q n) := by
  unfold rowsL; rw [List.range_succ, List.flatMap_append]; simp
theorem rowsL_len (Q : Nat → RD) : ∀ n, (rowsL Q n).length = n * 14
  | 0 => rfl
  | n + 1 => by rw [rowsL_snoc, List.length_append, rowsL_len Q n, show (rc (Q n)).length = 14 from rfl]; omega
theorem rowsL_get (Q : Nat → RD) : ∀ (n i c : Nat), i < n → c < 14 → (rowsL Q n)[i * 14 + c]? = (rc (Q i))[c]?
  | 0, _, _, h, _ => absurd h (Nat.not_lt_zero _)
  | n + 1, i, c, h, hc => by
    rw [rowsL_snoc]
    by_cases g : i < n
    · rw [List.getElem?_append_left (by rw [rowsL_len]; omega)]
      exact rowsL_get Q n i c g hc
    · obtain rfl : i = n := by omega
      rw [List.getElem?_append_right (by rw [rowsL_len]; omega), rowsL_len]
      congr 1
      omega
theorem rowsL_one (Q : Nat → RD) (n : Nat) : ∀ u ∈ rowsL Q n, u.oneCell' = true := fun u hu => by
  unfold rowsL at hu
  obtain ⟨i, _, h⟩ := List.mem_flatMap.1 hu
  unfold rc at h
  simp only [List.mem_cons, List.not_mem_nil, or_false] at h
  rcases h with rfl | rfl | rfl | rfl | rfl | rfl | rfl | rfl | rfl | rfl | rfl | rfl | rfl | rfl <;> rfl
theorem rowsL_rw {w : World} {b off n : Nat} {Q : Nat → RD} (h : Rws w b off n Q) : Rw w b off (rowsL Q n) := fun j u hj => by
  have hl : j < n * 14 := by rw [← rowsL_len Q n]; exact (List.getElem?_eq_some_iff.1 hj).1
  have e : j = j / 14 * 14 + j % 14 := by omega
  rw [e, rowsL_get Q n (j / 14) (j % 14) (by omega) (Nat.mod_lt _ (by decide))] at hj
  have h1 := h (j / 14) (by omega) (j % 14) u hj
  rw [Nat.add_assoc, ← e] at h1
  exact h1
theorem rowsL_at {w : World} {b n : Nat} {Q : Nat → RD} {N : List Value} (h : Rw w b 0 (rowsL Q n ++ N)) : Rws w b 0 n Q := fun i hi c u hc => by
  have h14 : c < 14 := (List.getElem?_eq_some_iff.1 hc).1
  have h1 := h (i * 14 + c) u (by rw [List.getElem?_append_left (by rw [rowsL_len]; omega), rowsL_get Q n i c hi h14]; exact hc)
  rw [← Nat.add_assoc] at h1
  exact h1
theorem run_app0r (w : World) (ty c g : Nat) (a : Option Addr) : (Builtin.append_ #[30, 30] ty #[.slice (some ⟨g, 0, none⟩) 0 0, .slice a 0 c]).run Try.prog w = .ok (.slice (some ⟨g, 0, none⟩) 0 0) w := by
  obtain ⟨i0, hi, hz0, hz1, hz2⟩ := info_parts info_row
  cases a <;> simp [Builtin.append_, run_underlying Try.underlying30, sizeOf, typeInfo, hi, Builtin.lenOf, Builtin.firstCells, loadCells, loadCellsFrom, storeCells]

theorem pts_nil (w : World) (b off : Nat) (P : Nat → PD) : Pts w b off 0 P := fun i hi => absurd hi (Nat.not_lt_zero _)
theorem Rws.lt {w : World} {b off n i : Nat} {Q : Nat → RD} (h : Rws w b off n Q) (hi : i < n) : b < w.heap.size := World.block_lt_of_cell? w _ (h i hi 0 _ rfl)
set_option maxRecDepth 100000 in
set_option maxHeartbeats 4000000 in
theorem app_rows (rb ro rn rc_ : Nat) (rs : Option Addr) (Q : Nat → RD) (W : World) (a : Nat) (hrs : rn = 0 ∨ rs = some ⟨rb, ro, none⟩) (hrc : rn ≤ rc_) (hrm : rc_ ≤ maxLen) (hr : Rws W rb ro rn Q) (ha : W.heap.size = a) (h2 : rn ≤ 200) : ∃ gk ks kc w1, (Builtin.append_ #[30, 30] 30 #[.slice (some ⟨a, 0, none⟩) 0 0, .slice rs rn rc_]).run Try.prog (W.alloc (.cells #[] 43)) = .ok (.slice ks rn kc) w1 ∧ (rn = 0 ∨ ks = some ⟨gk, 0, none⟩) ∧ rn ≤ kc ∧ kc ≤ maxLen ∧ Rws w1 gk 0 rn Q ∧ Bel W w1 := by
  subst ha
  unfold maxLen at hrm
  have b0 : Bel W (W.alloc (.cells #[] 43)) := bl_alloc (bl_refl _) _ _
  have hz := ownR_zero 14 W 43
  rcases Nat.eq_zero_or_pos rn with hz9 | hp1
  · subst hz9
    exact ⟨0, _, 0, _, run_app0r _ _ _ _ _, .inl rfl, Nat.le_refl _, Nat.zero_le _, fun i hi => absurd hi (Nat.not_lt_zero _), b0⟩
  · have e9 : rs = some ⟨rb, ro, none⟩ := by rcases hrs with h | h; omega; exact h
    obtain ⟨v', w', a1, a2, a3, a4⟩ := run_appR (P := Try.prog) 30 30 43 Try.underlying30 info_row rfl rb ro rn rc_ hz (rowsL_len Q rn) (rowsL_rw (hr.bel b0)) (rowsL_one Q rn) hp1 b0.size (by unfold maxLen; omega) (by omega)
    rw [← e9] at a1
    simp only [Nat.zero_add, List.nil_append] at a2 a3
    obtain ⟨g, cap, rfl, g1, g2, g3, g4, g5⟩ := own_slice a2 a3
    exact ⟨g, some ⟨g, 0, none⟩, cap, w', a1, .inr rfl, g2, g3, rowsL_at (N := []) (by rwa [List.append_nil]), a4 _ b0 (Nat.le_refl _)⟩
theorem rkeep_cnt (T : TD) (pb po pn pc_ : Nat) (ps : Option Addr) (P : Nat → PD) (rb ro rn rc_ : Nat) (rs : Option Addr) (Q : Nat → RD) (w : World) (hps : pn = 0 ∨ ps = some ⟨pb, po, none⟩) (hpc : pn ≤ pc_) (hpm : pc_ ≤ maxLen) (hp : Pts w pb po pn P) (op : ∀ i, i < pn → pok (P i)) (oT : okK .f64 T.tx ∧ okK .f64 T.ty) (hrs : rn = 0 ∨ rs = some ⟨rb, ro, none⟩) (hrc : rn ≤ rc_) (hrm : rc_ ≤ maxLen) (hr : Rws w rb ro rn Q) (he : ckE T pn P = 0) (hne : rn ≠ rwN T pn) : Calls Try.prog 12 #[.agg #[.int .i64 T.ta, .int .i64 T.tp, .int .i64 T.tb, .int .i64 T.tq, .bool T.ts, .float .f64 T.tx, .float .f64 T.ty, .slice ps pn pc_], .slice rs rn rc_] w fun e w' => e = .returned (.tuple #[.agg #[.int .i64 0, .int .i64 0, .int .i64 0, .int .i64 0, .bool false, .float .f64 0, .float .f64 0, .slice none 0 0], .int .i64 200]) ∧ Bel w w' := by
  have h9 : T.ts = false ∨ T.ts = true := by cases T.ts <;> simp
  rcases h9 with h | h
  · exact rkeep_cnt_false T pb po pn pc_ ps P rb ro rn rc_ rs Q w hps hpc hpm hp op oT hrs hrc hrm hr he (hide h) hne
  · exact rkeep_cnt_true T pb po pn pc_ ps P rb ro rn rc_ rs Q w hps hpc hpm hp op oT hrs hrc hrm hr he (hide h) hne
theorem rkeep_ok (T : TD) (pb po pn pc_ : Nat) (ps : Option Addr) (P : Nat → PD) (rb ro rn rc_ : Nat) (rs : Option Addr) (Q : Nat → RD) (w : World) (hps : pn = 0 ∨ ps = some ⟨pb, po, none⟩) (hpc : pn ≤ pc_) (hpm : pc_ ≤ maxLen) (hp : Pts w pb po pn P) (op : ∀ i, i < pn → pok (P i)) (oT : okK .f64 T.tx ∧ okK .f64 T.ty) (hrs : rn = 0 ∨ rs = some ⟨rb, ro, none⟩) (hrc : rn ≤ rc_) (hrm : rc_ ≤ maxLen) (hr : Rws w rb ro rn Q) (he : ckE T pn P = 0) (hne : rn = rwN T pn) : Calls Try.prog 12 #[.agg #[.int .i64 T.ta, .int .i64 T.tp, .int .i64 T.tb, .int .i64 T.tq, .bool T.ts, .float .f64 T.tx, .float .f64 T.ty, .slice ps pn pc_], .slice rs rn rc_] w fun e w' => ∃ g cap, pn ≤ cap ∧ cap ≤ maxLen ∧ w.heap.size ≤ g ∧ Pts w' g 0 pn (kpP P Q (mN T pn)) ∧ w'.there g 0 (pn * 6) ∧ e = .returned (.tuple #[.agg #[.int .i64 T.ta, .int .i64 T.tp, .int .i64 T.tb, .int .i64 T.tq, .bool T.ts, .float .f64 T.tx, .float .f64 T.ty, .slice (some ⟨g, 0, none⟩) pn cap], .int .i64 0]) ∧ Bel w w' := by
  have h9 : T.ts = false ∨ T.ts = true := by cases T.ts <;> simp
  rcases h9 with h | h
  · exact rkeep_ok_false T pb po pn pc_ ps P rb ro rn rc_ rs Q w hps hpc hpm hp op oT hrs hrc hrm hr he (hide h) hne
  · exact rkeep_ok_true T pb po pn pc_ ps P rb ro rn rc_ rs Q w hps hpc hpm hp op oT hrs hrc hrm hr he (hide h) hne

set_option maxRecDepth 100000 in
set_option maxHeartbeats 4000000 in
theorem rk_big (T : TD) (pb po pn pc_ : Nat) (ps : Option Addr) (P : Nat → PD) (rs : Option Addr) (rn rc_ : Nat) (w : World) (hbig : 70 < pn ∨ 200 < rn) : Calls Try.prog 3 #[.agg #[.int .i64 T.ta, .int .i64 T.tp, .int .i64 T.tb, .int .i64 T.tq, .bool T.ts, .float .f64 T.tx, .float .f64 T.ty, .slice ps pn pc_], .slice rs rn rc_] w fun e w' => e = .returned (.bool true) ∧ Below w.heap.size w w' := by
  have hT : (w.alloc (.cells #[.int .i64 T.ta, .int .i64 T.tp, .int .i64 T.tb, .int .i64 T.tq, .bool T.ts, .float .f64 T.tx, .float .f64 T.ty, .slice ps pn pc_] 29)).rangeAt (w.heap.size) 0 [.int .i64 T.ta, .int .i64 T.tp, .int .i64 T.tb, .int .i64 T.tq, .bool T.ts, .float .f64 T.tx, .float .f64 T.ty, .slice ps pn pc_] := rng_new w [.int .i64 T.ta, .int .i64 T.tp, .int .i64 T.tb, .int .i64 T.tq, .bool T.ts, .float .f64 T.tx, .float .f64 T.ty, .slice ps pn pc_] 29
  have BB : Bel w (w.alloc (.cells #[.int .i64 T.ta, .int .i64 T.tp, .int .i64 T.tb, .int .i64 T.tq, .bool T.ts, .float .f64 T.tx, .float .f64 T.ty, .slice ps pn pc_] 29)) := bl_alloc (bl_refl w) _ _
  have hz0 : (w.alloc (.cells #[.int .i64 T.ta, .int .i64 T.tp, .int .i64 T.tb, .int .i64 T.tq, .bool T.ts, .float .f64 T.tx, .float .f64 T.ty, .slice ps pn pc_] 29)).heap.size = w.heap.size + 1 := by simp only [World.size_alloc]
  by_cases h1 : 70 < pn
  · have hI : (70 : Int) < (pn : Int) := by omega
    go_enter Try.func3, Try.ntmps3
    repeat (first | (go_at_call 9; (with_reducible refine (alive20 _).mono ?_); rintro e w1 ⟨rfl, hb1⟩; replace hT := rng_bel hT hb1; have hzhb1 := hb1.size; replace BB := bl_trans BB hb1; have kS := hT 7 _ rfl; rw [Nat.zero_add] at kS) | go_values | go_skip | go_guarded | go_step | go_upon | go_back | dsimp only)
    go_ret
    exact ⟨rfl, BB.1⟩
  · have hI : ¬ (70 : Int) < (pn : Int) := by omega
    have hJ : (200 : Int) < (rn : Int) := by omega
    go_enter Try.func3, Try.ntmps3
    repeat (first | (go_at_call 9; (with_reducible refine (alive20 _).mono ?_); rintro e w1 ⟨rfl, hb1⟩; replace hT := rng_bel hT hb1; have hzhb1 := hb1.size; replace BB := bl_trans BB hb1; have kS := hT 7 _ rfl; rw [Nat.zero_add] at kS) | go_values | go_skip | go_guarded | go_step | go_upon | go_back | dsimp only)
    go_ret
    exact ⟨rfl, BB.1⟩

end Go.Proofs.Ytfohggiehbplkaa
