/-
  What each function of package poly answers, and what the reference of its chapter answers: one contract a function, for every float: the answer stands in the relation of its formula to what was given; of the memory that was there nothing has turned.
-/
import Derived.Test.YtcdnhkjedmmhpaaVec
import Derived.Test.YtcdnhkjedmmhpaaSld
import Derived.Below
import Derived.WalkKit
import Derived.WalkLawsBesides
import Derived.WalkSpells
import Derived.ProofKit
import Derived.OpenShut
import Derived.Deep.RegionHeld3
namespace Go.Proofs.Ytcdnhkjedmmhpaa
open Go.ChangeShapes Go.WideShapes Go.ChangeAt Go.RowKit
set_option linter.unusedVariables false
set_option linter.unusedSimpArgs false


set_option maxRecDepth 100000 in
set_option maxHeartbeats 4000000 in
theorem check_many (cs : Int) (ss : Option Addr) (sn sc_ : Nat) (js : Option Addr) (jn jc : Nat) (w : World) (hm : 1024 < sn) : Calls Try.prog 45 #[.agg #[.float .f64 0, .float .f64 0, .float .f64 0, .int .i64 0, .float .f64 0, .float .f64 0, .float .f64 0, .float .f64 4607182418800017408, .float .f64 4607182418800017408, .int .i64 cs, .slice ss sn sc_, .slice none 0 0, .slice none 0 0, .int .i64 0], .slice js jn jc] w fun e w' => e = .returned (.int .i64 4) ∧ Bel w w' := by
  have hA : (w.alloc (.cells #[.float .f64 0, .float .f64 0, .float .f64 0, .int .i64 0, .float .f64 0, .float .f64 0, .float .f64 0, .float .f64 4607182418800017408, .float .f64 4607182418800017408, .int .i64 cs, .slice ss sn sc_, .slice none 0 0, .slice none 0 0, .int .i64 0] 31)).rangeAt w.heap.size 0 [.float .f64 0, .float .f64 0, .float .f64 0, .int .i64 0, .float .f64 0, .float .f64 0, .float .f64 0, .float .f64 4607182418800017408, .float .f64 4607182418800017408, .int .i64 cs, .slice ss sn sc_, .slice none 0 0, .slice none 0 0, .int .i64 0] := rng_new w [.float .f64 0, .float .f64 0, .float .f64 0, .int .i64 0, .float .f64 0, .float .f64 0, .float .f64 0, .float .f64 4607182418800017408, .float .f64 4607182418800017408, .int .i64 cs, .slice ss sn sc_, .slice none 0 0, .slice none 0 0, .int .i64 0] 31
  have k10 : (w.alloc (.cells #[.float .f64 0, .float .f64 0, .float .f64 0, .int .i64 0, .float .f64 0, .float .f64 0, .float .f64 0, .float .f64 4607182418800017408, .float .f64 4607182418800017408, .int .i64 cs, .slice ss sn sc_, .slice none 0 0, .slice none 0 0, .int .i64 0] 31)).cell? ⟨w.heap.size, 10, none⟩ = some (.slice ss sn sc_) := by have h := hA 10 _ rfl; rwa [Nat.zero_add] at h
  have B0 : Bel w (w.alloc (.cells #[.float .f64 0, .float .f64 0, .float .f64 0, .int .i64 0, .float .f64 0, .float .f64 0, .float .f64 0, .float .f64 4607182418800017408, .float .f64 4607182418800017408, .int .i64 cs, .slice ss sn sc_, .slice none 0 0, .slice none 0 0, .int .i64 0] 31)) := bl_alloc (bl_refl w) _ _
  have hI : (1024 : Int) < (sn : Int) := by omega
  go_enter Try.func45, Try.ntmps45
  repeat (first | go_values | go_skip | go_guarded | go_step | go_upon | go_back | dsimp only)
  go_ret
  exact ⟨rfl, B0⟩
set_option maxRecDepth 100000 in
set_option maxHeartbeats 4000000 in
theorem check_nil (cs : Int) (js : Option Addr) (jc : Nat) (sb so sn sc_ : Nat) (ss : Option Addr) (S : Nat → SL) (w : World) (hn1024 : sn ≤ 1024) : Calls Try.prog 45 #[.agg #[.float .f64 0, .float .f64 0, .float .f64 0, .int .i64 0, .float .f64 0, .float .f64 0, .float .f64 0, .float .f64 4607182418800017408, .float .f64 4607182418800017408, .int .i64 cs, .slice ss sn sc_, .slice none 0 0, .slice none 0 0, .int .i64 0], .slice js 0 jc] w fun e w' => e = .returned (.int .i64 0) ∧ Bel w w' := by
  have hA : (w.alloc (.cells #[.float .f64 0, .float .f64 0, .float .f64 0, .int .i64 0, .float .f64 0, .float .f64 0, .float .f64 0, .float .f64 4607182418800017408, .float .f64 4607182418800017408, .int .i64 cs, .slice ss sn sc_, .slice none 0 0, .slice none 0 0, .int .i64 0] 31)).rangeAt w.heap.size 0 [.float .f64 0, .float .f64 0, .float .f64 0, .int .i64 0, .float .f64 0, .float .f64 0, .float .f64 0, .float .f64 4607182418800017408, .float .f64 4607182418800017408, .int .i64 cs, .slice ss sn sc_, .slice none 0 0, .slice none 0 0, .int .i64 0] := rng_new w [.float .f64 0, .float .f64 0, .float .f64 0, .int .i64 0, .float .f64 0, .float .f64 0, .float .f64 0, .float .f64 4607182418800017408, .float .f64 4607182418800017408, .int .i64 cs, .slice ss sn sc_, .slice none 0 0, .slice none 0 0, .int .i64 0] 31
  have k10 : (w.alloc (.cells #[.float .f64 0, .float .f64 0, .float .f64 0, .int .i64 0, .float .f64 0, .float .f64 0, .float .f64 0, .float .f64 4607182418800017408, .float .f64 4607182418800017408, .int .i64 cs, .slice ss sn sc_, .slice none 0 0, .slice none 0 0, .int .i64 0] 31)).cell? ⟨w.heap.size, 10, none⟩ = some (.slice ss sn sc_) := by have h := hA 10 _ rfl; rwa [Nat.zero_add] at h
  have B0 : Bel w (w.alloc (.cells #[.float .f64 0, .float .f64 0, .float .f64 0, .int .i64 0, .float .f64 0, .float .f64 0, .float .f64 0, .float .f64 4607182418800017408, .float .f64 4607182418800017408, .int .i64 cs, .slice ss sn sc_, .slice none 0 0, .slice none 0 0, .int .i64 0] 31)) := bl_alloc (bl_refl w) _ _
  have hI : ¬ (1024 : Int) < (sn : Int) := by omega
  go_enter Try.func45, Try.ntmps45
  repeat (first | (go_at_call 72; (with_reducible refine (mayBe_nil js jc sb so sn sc_ ss S _).mono ?_); rintro e w' ⟨rfl, hb⟩) | go_values | go_skip | go_guarded | go_step | go_upon | go_back | dsimp only)
  go_ret
  exact ⟨rfl, bl_trans B0 hb⟩
set_option maxRecDepth 100000 in
set_option maxHeartbeats 4000000 in
theorem check_one (cs : Int) (sb so sn sc_ : Nat) (ss : Option Addr) (S : Nat → SL) (ib io im ic : Nat) (is_ : Option Addr) (jb jo jc : Nat) (w : World) (hss : sn = 0 ∨ ss = some ⟨sb, so, none⟩) (hsc : sn ≤ sc_) (hsm : sc_ ≤ maxLen) (hs : Sls w sb so sn S) (hi1 : im = 0 ∨ is_ = some ⟨ib, io, none⟩) (hic : im ≤ ic) (him : ic ≤ maxLen) (hin : Nts w ib io im) (hj : w.cell? ⟨jb, jo, none⟩ = some (.slice is_ im ic)) (hjc : 1 ≤ jc) (him1 : 1 ≤ im) (hmn : im ≤ sn) (hn1024 : sn ≤ 1024) (hlv : ∀ i, i < im → (S i).l = true) (hfr : ∀ i, i < im → (S i).k = 3) : Calls Try.prog 45 #[.agg #[.float .f64 0, .float .f64 0, .float .f64 0, .int .i64 0, .float .f64 0, .float .f64 0, .float .f64 0, .float .f64 4607182418800017408, .float .f64 4607182418800017408, .int .i64 cs, .slice ss sn sc_, .slice none 0 0, .slice none 0 0, .int .i64 0], .slice (some ⟨jb, jo, none⟩) 1 jc] w fun e w' => e = .returned (.int .i64 0) ∧ Bel w w' := by
  have hA : (w.alloc (.cells #[.float .f64 0, .float .f64 0, .float .f64 0, .int .i64 0, .float .f64 0, .float .f64 0, .float .f64 0, .float .f64 4607182418800017408, .float .f64 4607182418800017408, .int .i64 cs, .slice ss sn sc_, .slice none 0 0, .slice none 0 0, .int .i64 0] 31)).rangeAt w.heap.size 0 [.float .f64 0, .float .f64 0, .float .f64 0, .int .i64 0, .float .f64 0, .float .f64 0, .float .f64 0, .float .f64 4607182418800017408, .float .f64 4607182418800017408, .int .i64 cs, .slice ss sn sc_, .slice none 0 0, .slice none 0 0, .int .i64 0] := rng_new w [.float .f64 0, .float .f64 0, .float .f64 0, .int .i64 0, .float .f64 0, .float .f64 0, .float .f64 0, .float .f64 4607182418800017408, .float .f64 4607182418800017408, .int .i64 cs, .slice ss sn sc_, .slice none 0 0, .slice none 0 0, .int .i64 0] 31
  have k10 : (w.alloc (.cells #[.float .f64 0, .float .f64 0, .float .f64 0, .int .i64 0, .float .f64 0, .float .f64 0, .float .f64 0, .float .f64 4607182418800017408, .float .f64 4607182418800017408, .int .i64 cs, .slice ss sn sc_, .slice none 0 0, .slice none 0 0, .int .i64 0] 31)).cell? ⟨w.heap.size, 10, none⟩ = some (.slice ss sn sc_) := by have h := hA 10 _ rfl; rwa [Nat.zero_add] at h
  have B0 : Bel w (w.alloc (.cells #[.float .f64 0, .float .f64 0, .float .f64 0, .int .i64 0, .float .f64 0, .float .f64 0, .float .f64 0, .float .f64 4607182418800017408, .float .f64 4607182418800017408, .int .i64 cs, .slice ss sn sc_, .slice none 0 0, .slice none 0 0, .int .i64 0] 31)) := bl_alloc (bl_refl w) _ _
  have hI : ¬ (1024 : Int) < (sn : Int) := by omega
  go_enter Try.func45, Try.ntmps45
  repeat (first | (go_at_call 72; (with_reducible refine (mayBe_one sb so sn sc_ ss S ib io im ic is_ jb jo jc _ hss hsc hsm (hs.bel B0) hi1 hic him (hin.bel B0) (keep B0 hj) hjc him1 hmn hn1024 hlv hfr).mono ?_); rintro e w' ⟨rfl, hb⟩) | go_values | go_skip | go_guarded | go_step | go_upon | go_back | dsimp only)
  go_ret
  exact ⟨rfl, bl_trans B0 hb⟩

def slL (Q : Nat → SL) (n : Nat) : List Value := (List.range n).flatMap fun i => slc (Q i)
theorem slL_snoc (Q : Nat → SL) (n : Nat) : slL Q (n + 1) = slL Q n ++ slc (Q n) := by
  unfold slL; rw [List.range_succ, List.flatMap_append]; simp
theorem slL_len (Q : Nat → SL) : ∀ n, (slL Q n).length = n * 18
  | 0 => rfl
  | n + 1 => by rw [slL_snoc, List.length_append, slL_len Q n, show (slc (Q n)).length = 18 from rfl]; omega
theorem slL_get (Q : Nat → SL) : ∀ (n i c : Nat), i < n → c < 18 → (slL Q n)[i * 18 + c]? = (slc (Q i))[c]?
  | 0, _, _, h, _ => absurd h (Nat.not_lt_zero _)
  | n + 1, i, c, h, hc => by
    rw [slL_snoc]
    by_cases g : i < n
    · rw [List.getElem?_append_left (by rw [slL_len]; omega)]
      exact slL_get Q n i c g hc
    · obtain rfl : i = n := by omega
      rw [List.getElem?_append_right (by rw [slL_len]; omega), slL_len]
      congr 1
      omega
theorem slL_one (Q : Nat → SL) (n : Nat) : ∀ u ∈ slL Q n, u.oneCell' = true := fun u hu => by
  unfold slL at hu
  obtain ⟨i, _, h⟩ := List.mem_flatMap.1 hu
  unfold slc at h
  simp only [List.mem_cons, List.not_mem_nil, or_false] at h
  rcases h with rfl | rfl | rfl | rfl | rfl | rfl | rfl | rfl | rfl | rfl | rfl | rfl | rfl | rfl | rfl | rfl | rfl | rfl <;> rfl
theorem slL_rw {w : World} {b off n : Nat} {Q : Nat → SL} (h : Sls w b off n Q) : Rw w b off (slL Q n) := fun j u hj => by
  have hl : j < n * 18 := by rw [← slL_len Q n]; exact (List.getElem?_eq_some_iff.1 hj).1
  have e : j = j / 18 * 18 + j % 18 := by omega
  rw [e, slL_get Q n (j / 18) (j % 18) (by omega) (Nat.mod_lt _ (by decide))] at hj
  have h1 := h (j / 18) (by omega) (j % 18) u hj
  rw [Nat.add_assoc, ← e] at h1
  exact h1
theorem slL_at {w : World} {b n : Nat} {Q : Nat → SL} {N : List Value} (h : Rw w b 0 (slL Q n ++ N)) : Sls w b 0 n Q := fun i hi c u hc => by
  have h14 : c < 18 := (List.getElem?_eq_some_iff.1 hc).1
  have h1 := h (i * 18 + c) u (by rw [List.getElem?_append_left (by rw [slL_len]; omega), slL_get Q n i c hi h14]; exact hc)
  rw [← Nat.add_assoc] at h1
  exact h1
theorem wpList_runX {w : World} {v u v' : Value} {w' : World} {ops : Array Oper} {rest : List Oper} {o : Oper} {a : Act} {Q : Exit → Act → World → Prop} (t : TypeId) (hgd : o.guard = none) (s x : Operand)
    (ho : o.op = .call { callee := .builtin .append, args := #[s, x], argTypes := #[t, t] }) (hv : a.eval s = v) (hx : a.eval x = u) (hrun : (Builtin.append_ #[t, t] o.type #[v, u]).run Try.prog w = .ok v' w')
    (hK : wpList Try.prog ops Q rest (a.put o.dst v') w') : wpList Try.prog ops Q (o :: rest) a w := by
  refine wpList_plain hgd fun K hK' => ?_
  unfold Oper.wp
  simp [execOp, ho, resolve, invoke, builtin, hv, hx, hrun, Result.andThen]
  exact hK' _ _ hK
theorem ownR_zero (sz : Nat) (w : World) (t : TypeId) : OwnR sz w.heap.size (w.alloc (.cells #[] t)) (.slice (some ⟨w.heap.size, 0, none⟩) 0 0) 0 [] :=
  ownR_new (by simp) (Nat.le_refl _) (Nat.le_refl _) (Nat.zero_le _) (by simp) (fun j u h => by simp at h)
theorem own_there {sz base : Nat} {w : World} {g cap n : Nat} {R : List Value} (h : OwnR sz base w (.slice (some ⟨g, 0, none⟩) n cap) n R) : base ≤ g ∧ n ≤ cap ∧ cap ≤ maxLen ∧ Rw w g 0 R ∧ w.there g 0 (n * sz) := by
  rcases h.2 with ⟨h2, _⟩ | ⟨k, c, e, h1, h2, h3, h4, h5, h6⟩
  · cases h2
  · injection e with e1 e2 e3
    injection e1 with e1
    injection e1 with e1
    subst e1 e3
    refine ⟨h1, h2, h3, h4, fun j hj => ?_⟩
    rw [Nat.zero_add]
    exact ⟨h5 j (Nat.lt_of_lt_of_le hj (Nat.mul_le_mul_right _ h2)), h6 j⟩


theorem run_app0s (w : World) (ty c g : Nat) (a : Option Addr) : (Builtin.append_ #[27, 27] ty #[.slice (some ⟨g, 0, none⟩) 0 0, .slice a 0 c]).run Try.prog w = .ok (.slice (some ⟨g, 0, none⟩) 0 0) w := by
  obtain ⟨i0, hi, hz0, hz1, hz2⟩ := info_parts info_slot
  cases a <;> simp [Builtin.append_, run_underlying Try.underlying27, sizeOf, typeInfo, hi, Builtin.lenOf, Builtin.firstCells, loadCells, loadCellsFrom, storeCells]
/-- rows of one's own -/
def Owns (w w' : World) (v : Value) (n : Nat) (Q : Nat → SL) : Prop := ∃ g cap sl, v = .slice sl n cap ∧ (n = 0 ∨ sl = some ⟨g, 0, none⟩) ∧ n ≤ cap ∧ cap ≤ maxLen ∧ w.heap.size ≤ g ∧ Sls w' g 0 n Q ∧ w'.there g 0 (n * 18)
set_option maxRecDepth 100000 in
set_option maxHeartbeats 4000000 in
theorem cloneL_w (sb so sn sc_ : Nat) (ss : Option Addr) (S : Nat → SL) (w : World) (hss : sn = 0 ∨ ss = some ⟨sb, so, none⟩) (hsc : sn ≤ sc_) (hsm : sc_ ≤ maxLen) (hs : Sls w sb so sn S) (hlim : sn ≤ 1024) : Calls Try.prog 73 #[.slice ss sn sc_] w fun e w' => ∃ v, Owns w w' v sn S ∧ e = .returned (v) ∧ Bel w w' := by
  have b0 : Bel w (w.alloc (.cells #[] 42)) := bl_alloc (bl_refl w) _ _
  rcases Nat.eq_zero_or_pos sn with hz | hp
  · subst hz
    cases ss with
    | none =>
      have qs := fun w : World => Go.Lib.run_eql_slice_nil (P := Try.prog) w 27 42 none 0 sc_ 0 0 Try.underlying27
      go_enter Try.func73, Try.ntmps73
      repeat (first | go_values | go_skip | go_guarded | go_step | go_upon | go_back | dsimp only)
      go_ret
      exact ⟨_, ⟨w.heap.size, 0, none, rfl, .inl rfl, Nat.le_refl _, Nat.zero_le _, Nat.le_refl _, fun i hi => by omega, fun j hj => by omega⟩, rfl, bl_refl w⟩
    | some ad =>
      have qs := fun w : World => Go.Lib.run_eql_slice_nil (P := Try.prog) w 27 42 (some ad) 0 sc_ 0 0 Try.underlying27
      go_enter Try.func73, Try.ntmps73
      go_wp2_with (first | (at_builtin; refine wpList_runX 27 rfl (.tmp 5) (.tmp 6) rfl rfl rfl (run_app0s _ _ sc_ w.heap.size (some ad)) ?_))
      go_ret
      exact ⟨_, ⟨w.heap.size, 0, some ⟨w.heap.size, 0, none⟩, rfl, .inl rfl, Nat.le_refl _, Nat.zero_le _, Nat.le_refl _, fun i hi => by omega, fun j hj => by omega⟩, rfl, b0⟩
  · have e9 : ss = some ⟨sb, so, none⟩ := by rcases hss with h | h; omega; exact h
    subst e9
    have qs := fun w : World => Go.Lib.run_eql_slice_nil (P := Try.prog) w 27 42 (some ⟨sb, so, none⟩) sn sc_ 0 0 Try.underlying27
    obtain ⟨v', w', hr1, hr2, ⟨g, cap, rfl⟩, hr4⟩ := run_appR (P := Try.prog) 27 27 42 Try.underlying27 info_slot rfl sb so sn sc_ (ownR_zero 18 w 42) (slL_len S sn) (slL_rw (hs.bel b0)) (slL_one S sn) hp b0.size (by unfold maxLen; omega) (by omega)
    go_enter Try.func73, Try.ntmps73
    go_wp2_with (first | (at_builtin; refine wpList_runX 27 rfl (.tmp 5) (.tmp 6) rfl rfl rfl hr1 ?_))
    go_ret
    simp only [Nat.zero_add, List.nil_append] at hr2
    obtain ⟨g1, g2, g3, g4, g5⟩ := own_there hr2
    exact ⟨_, ⟨g, cap, some ⟨g, 0, none⟩, by simp, .inr rfl, g2, g3, g1, slL_at (N := []) (by rwa [List.append_nil]), g5⟩, rfl, hr4 w b0 (Nat.le_refl _)⟩

set_option maxRecDepth 100000 in
set_option maxHeartbeats 4000000 in
theorem cloneJ0_w (w : World) : Calls Try.prog 74 #[.slice none 0 0] w fun e w' => e = .returned (.slice none 0 0) ∧ w' = w := by
  have qs := fun w : World => Go.Lib.run_eql_slice_nil (P := Try.prog) w 28 59 none 0 0 0 0 Try.underlying28
  go_enter Try.func74, Try.ntmps74
  repeat (first | go_values | go_skip | go_guarded | go_step | go_upon | go_back | dsimp only)
  go_ret
  exact ⟨rfl, rfl⟩

set_option maxRecDepth 100000 in
set_option maxHeartbeats 4000000 in
theorem cloneT0_w (w : World) : Calls Try.prog 75 #[.slice none 0 0] w fun e w' => e = .returned (.slice none 0 0) ∧ w' = w := by
  have qs := fun w : World => Go.Lib.run_eql_slice_nil (P := Try.prog) w 29 51 none 0 0 0 0 Try.underlying29
  go_enter Try.func75, Try.ntmps75
  repeat (first | go_values | go_skip | go_guarded | go_step | go_upon | go_back | dsimp only)
  go_ret
  exact ⟨rfl, rfl⟩

set_option maxRecDepth 100000 in
set_option maxHeartbeats 4000000 in
theorem own0_w (w : World) : Calls Try.prog 115 #[.slice none 0 0] w fun e w' => e = .returned (.slice none 0 0) ∧ w' = w := by
  have qs := fun w : World => Go.Lib.run_eql_slice_nil (P := Try.prog) w 37 158 none 0 0 0 0 Try.underlying37
  go_enter Try.func115, Try.ntmps115
  repeat (first | go_values | go_skip | go_guarded | go_step | go_upon | go_back | dsimp only)
  go_ret
  exact ⟨rfl, rfl⟩

theorem results_ct {P : Program} {fn : Func} {tmps : Array Value} {w : World} {c r : Nat} {ty : TypeId} {a : Addr} {v u : Value} (hres : fn.results = #[.cell c ty, .tmp r]) (hc : tmps.getD c undef = .pointer (some a)) (hl : (loadVar ty a).run P w = .ok v w) (hr : tmps.getD r undef = u) : (results fn tmps).run P w = .ok (.tuple #[v, u]) w := by
  unfold results
  rw [hres]
  have e : (#[ResultVar.cell c ty, ResultVar.tmp r]) = [ResultVar.cell c ty, ResultVar.tmp r].toArray := rfl
  rw [e]
  simp only [List.mapM_toArray, List.mapM_cons, List.mapM_nil, Sem.run_bind, Sem.run_map, Sem.run_pure, Result.andThen_ok, hc, hr, asAddr, hl]
  rfl
theorem bel_there {w w' : World} {b o n : Nat} (h : w.there b o n) (g : Bel w w') : w'.there b o n := fun j hj => by
  obtain ⟨h1, h2⟩ := h j hj
  obtain ⟨u, hu⟩ := Option.isSome_iff_exists.1 h1
  exact ⟨by rw [keep g hu]; rfl, by rw [g.2]; exact h2⟩
theorem there_new (w : World) (cs : List Value) (t : TypeId) : (w.alloc (.cells cs.toArray t)).there w.heap.size 0 cs.length := fun j hj => by
  refine ⟨?_, ?_⟩
  · rw [(rng_new w cs t) j _ (List.getElem?_eq_getElem hj)]; rfl
  · rw [Nat.zero_add]; exact fz_new j
theorem rng_upd {W : World} {b k : Nat} {cs : List Value} {v : Value} (h : W.rangeAt b 0 cs) (hk : k < cs.length) : (W.setCell ⟨b, k, none⟩ v).rangeAt b 0 (cs.set k v) := fun j u hj => by
  rw [Nat.zero_add]
  by_cases e : j = k
  · subst e
    rw [List.getElem?_set_self hk] at hj
    have h1 := h j _ (List.getElem?_eq_getElem hk)
    rw [Nat.zero_add] at h1
    rw [World.cell?_setCell_same _ _ _ h1, hj]
  · rw [List.getElem?_set_ne (by omega)] at hj
    have h1 := h j u hj
    rw [Nat.zero_add] at h1
    rw [World.cell?_setCell_other _ _ _ _ (by simp; first | done | omega)]
    exact h1
theorem there_set {W : World} {b o n : Nat} {a : Addr} {v : Value} (h : W.there b o n) : (W.setCell a v).there b o n := fun j hj => by
  obtain ⟨h1, h2⟩ := h j hj
  refine ⟨?_, by rw [World.frozen?_setCell]; exact h2⟩
  obtain ⟨u, hu⟩ := Option.isSome_iff_exists.1 h1
  by_cases e : a = ⟨b, o + j, none⟩
  · subst e; rw [World.cell?_setCell_same _ _ _ hu]; rfl
  · rw [World.cell?_setCell_other _ _ _ _ e, hu]; rfl
theorem rng_set_far {W : World} {b o : Nat} {cs : List Value} {a : Addr} {v : Value} (h : W.rangeAt b o cs) (hb : a.block ≠ b) : (W.setCell a v).rangeAt b o cs := fun j u hj => by
  rw [World.cell?_setCell_other _ _ _ _ (by intro e; subst e; exact hb rfl)]
  exact h j u hj
theorem bel_set1 {w0 w : World} {b o : Nat} {v : Value} (h : Bel w0 w) (hb : w0.heap.size ≤ b) : Bel w0 (w.setCell ⟨b, o, none⟩ v) := bl_set h hb
theorem size_set (w : World) (a : Addr) (v : Value) : (w.setCell a v).heap.size = w.heap.size := by simp
theorem size_setsJ (b : Nat) : ∀ (vs : List Value) (o : Nat) (w : World), (w.setCells b o vs).heap.size = w.heap.size
  | [], _, _ => rfl
  | v :: r, o, w => by rw [World.setCells, size_setsJ b r]; simp
theorem bel_setsJ {b : Nat} : ∀ (vs : List Value) (o : Nat) {W0 w : World}, Bel W0 w → W0.heap.size ≤ b → Bel W0 (w.setCells b o vs)
  | [], _, _, _, h, _ => h
  | v :: r, o, _, w, h, hb => by rw [World.setCells]; exact bel_setsJ r (o + 1) (bl_set h hb) hb

theorem results_c {P : Program} {fn : Func} {tmps : Array Value} {w : World} {c : Nat} {ty : TypeId} {a : Addr} {v : Value} (hres : fn.results = #[.cell c ty]) (hc : tmps.getD c undef = .pointer (some a)) (hl : (loadVar ty a).run P w = .ok v w) : (results fn tmps).run P w = .ok v w := by
  unfold results
  rw [hres]
  have e : (#[ResultVar.cell c ty]) = [ResultVar.cell c ty].toArray := rfl
  rw [e]
  simp only [List.mapM_toArray, List.mapM_cons, List.mapM_nil, Sem.run_bind, Sem.run_map, Sem.run_pure, Result.andThen_ok, hc, asAddr, hl]
  rfl
theorem results_cctt {P : Program} {fn : Func} {tmps : Array Value} {w : World} {c r r2 : Nat} {ty : TypeId} {a : Addr} {v u u2 : Value} (hres : fn.results = #[.cell c ty, .tmp r, .tmp r2]) (hc : tmps.getD c undef = .pointer (some a)) (hl : (loadVar ty a).run P w = .ok v w) (hr : tmps.getD r undef = u) (hr2 : tmps.getD r2 undef = u2) : (results fn tmps).run P w = .ok (.tuple #[v, u, u2]) w := by
  unfold results
  rw [hres]
  have e : (#[ResultVar.cell c ty, ResultVar.tmp r, ResultVar.tmp r2]) = [ResultVar.cell c ty, ResultVar.tmp r, ResultVar.tmp r2].toArray := rfl
  rw [e]
  simp only [List.mapM_toArray, List.mapM_cons, List.mapM_nil, Sem.run_bind, Sem.run_map, Sem.run_pure, Result.andThen_ok, hc, hr, hr2, asAddr, hl]
  rfl
theorem wp_build {P : Program} {op : Oper} {a : Act} {w : World} {K : Act → World → Prop} {Q : Exit → Act → World → Prop} (ty : TypeId) (parts : Array (Nat × Operand)) (ho : op.op = .build ty parts) (v : Value) (h : (Instr.build ty (parts.map fun (i, x) => (i, a.eval x))).run P w = .ok v w) (hk : K (a.put op.dst v) w) : op.wp P a w K Q := by
  unfold Oper.wp execOp
  simp only [ho, Sem.run_bind, h, Result.andThen_ok, Sem.run_pure]
  exact hk
set_option maxRecDepth 100000 in
set_option maxHeartbeats 4000000 in
theorem bodyTwin_w (q : SL) (w : World) : Calls Try.prog 76 #[.agg #[.int .u8 q.k, .float .f64 0, .float .f64 0, .complex .f64 0 0, .float .f64 0, .float .f64 0, .float .f64 0, .float .f64 0, .float .f64 0, .float .f64 0, .float .f64 0, .float .f64 0, .slice none 0 0, .bool q.a, .int .i64 q.c, .bool false]] w fun e w' => e = .returned (.agg #[.int .u8 q.k, .float .f64 0, .float .f64 0, .complex .f64 0 0, .float .f64 0, .float .f64 0, .float .f64 0, .float .f64 0, .float .f64 0, .float .f64 0, .float .f64 0, .float .f64 0, .slice none 0 0, .bool q.a, .int .i64 q.c, .bool false]) ∧ Bel w w' := by
  have hA : ((w.alloc (.cells #[.int .u8 q.k, .float .f64 0, .float .f64 0, .complex .f64 0 0, .float .f64 0, .float .f64 0, .float .f64 0, .float .f64 0, .float .f64 0, .float .f64 0, .float .f64 0, .float .f64 0, .slice none 0 0, .bool q.a, .int .i64 q.c, .bool false] 39)).alloc (.cells #[.int .u8 0, .float .f64 0, .float .f64 0, .complex .f64 0 0, .float .f64 0, .float .f64 0, .float .f64 0, .float .f64 0, .float .f64 0, .float .f64 0, .float .f64 0, .float .f64 0, .slice none 0 0, .bool false, .int .i64 0, .bool false] 39)).rangeAt (w.heap.size) 0 [.int .u8 q.k, .float .f64 0, .float .f64 0, .complex .f64 0 0, .float .f64 0, .float .f64 0, .float .f64 0, .float .f64 0, .float .f64 0, .float .f64 0, .float .f64 0, .float .f64 0, .slice none 0 0, .bool q.a, .int .i64 q.c, .bool false] := World.rangeAt_alloc (rng_new w [.int .u8 q.k, .float .f64 0, .float .f64 0, .complex .f64 0 0, .float .f64 0, .float .f64 0, .float .f64 0, .float .f64 0, .float .f64 0, .float .f64 0, .float .f64 0, .float .f64 0, .slice none 0 0, .bool q.a, .int .i64 q.c, .bool false] 39) _
  have hAt : ((w.alloc (.cells #[.int .u8 q.k, .float .f64 0, .float .f64 0, .complex .f64 0 0, .float .f64 0, .float .f64 0, .float .f64 0, .float .f64 0, .float .f64 0, .float .f64 0, .float .f64 0, .float .f64 0, .slice none 0 0, .bool q.a, .int .i64 q.c, .bool false] 39)).alloc (.cells #[.int .u8 0, .float .f64 0, .float .f64 0, .complex .f64 0 0, .float .f64 0, .float .f64 0, .float .f64 0, .float .f64 0, .float .f64 0, .float .f64 0, .float .f64 0, .float .f64 0, .slice none 0 0, .bool false, .int .i64 0, .bool false] 39)).there (w.heap.size) 0 16 := World.there_alloc (there_new w [.int .u8 q.k, .float .f64 0, .float .f64 0, .complex .f64 0 0, .float .f64 0, .float .f64 0, .float .f64 0, .float .f64 0, .float .f64 0, .float .f64 0, .float .f64 0, .float .f64 0, .slice none 0 0, .bool q.a, .int .i64 q.c, .bool false] 39) _
  have hU : ((w.alloc (.cells #[.int .u8 q.k, .float .f64 0, .float .f64 0, .complex .f64 0 0, .float .f64 0, .float .f64 0, .float .f64 0, .float .f64 0, .float .f64 0, .float .f64 0, .float .f64 0, .float .f64 0, .slice none 0 0, .bool q.a, .int .i64 q.c, .bool false] 39)).alloc (.cells #[.int .u8 0, .float .f64 0, .float .f64 0, .complex .f64 0 0, .float .f64 0, .float .f64 0, .float .f64 0, .float .f64 0, .float .f64 0, .float .f64 0, .float .f64 0, .float .f64 0, .slice none 0 0, .bool false, .int .i64 0, .bool false] 39)).there (w.heap.size + 1) 0 16 := by have h := there_new (w.alloc (.cells #[.int .u8 q.k, .float .f64 0, .float .f64 0, .complex .f64 0 0, .float .f64 0, .float .f64 0, .float .f64 0, .float .f64 0, .float .f64 0, .float .f64 0, .float .f64 0, .float .f64 0, .slice none 0 0, .bool q.a, .int .i64 q.c, .bool false] 39)) [.int .u8 0, .float .f64 0, .float .f64 0, .complex .f64 0 0, .float .f64 0, .float .f64 0, .float .f64 0, .float .f64 0, .float .f64 0, .float .f64 0, .float .f64 0, .float .f64 0, .slice none 0 0, .bool false, .int .i64 0, .bool false] 39; rwa [World.size_alloc] at h
  have k12 : ((w.alloc (.cells #[.int .u8 q.k, .float .f64 0, .float .f64 0, .complex .f64 0 0, .float .f64 0, .float .f64 0, .float .f64 0, .float .f64 0, .float .f64 0, .float .f64 0, .float .f64 0, .float .f64 0, .slice none 0 0, .bool q.a, .int .i64 q.c, .bool false] 39)).alloc (.cells #[.int .u8 0, .float .f64 0, .float .f64 0, .complex .f64 0 0, .float .f64 0, .float .f64 0, .float .f64 0, .float .f64 0, .float .f64 0, .float .f64 0, .float .f64 0, .float .f64 0, .slice none 0 0, .bool false, .int .i64 0, .bool false] 39)).cell? ⟨w.heap.size, 12, none⟩ = some (.slice none 0 0) := by have h := hA 12 _ rfl; rwa [Nat.zero_add] at h
  have f12 := (hAt 12 (by decide)).2
  rw [Nat.zero_add] at f12
  have B0 : Bel w ((w.alloc (.cells #[.int .u8 q.k, .float .f64 0, .float .f64 0, .complex .f64 0 0, .float .f64 0, .float .f64 0, .float .f64 0, .float .f64 0, .float .f64 0, .float .f64 0, .float .f64 0, .float .f64 0, .slice none 0 0, .bool q.a, .int .i64 q.c, .bool false] 39)).alloc (.cells #[.int .u8 0, .float .f64 0, .float .f64 0, .complex .f64 0 0, .float .f64 0, .float .f64 0, .float .f64 0, .float .f64 0, .float .f64 0, .float .f64 0, .float .f64 0, .float .f64 0, .slice none 0 0, .bool false, .int .i64 0, .bool false] 39)) := bl_alloc (bl_alloc (bl_refl w) _ _) _ _
  go_enter Try.func76, Try.ntmps76
  repeat (first | (go_at_call 115; (with_reducible refine (own0_w _).mono ?_); rintro e w' ⟨rfl, rfl⟩) | go_values | go_skip | go_guarded | go_step | go_upon | go_back | dsimp only)
  refine wp_loop_rounds 1 ?_
  rw [rounds_succ]
  repeat (first | ((with_reducible show Oper.wp _ { dst := _, op := Op.load 39 _, type := _, pos := _, after := _, guard := _ } _ _ _ _); refine wp_load_mid (P := Try.prog) 39 _ rfl _ _ rfl [.int .u8 q.k, .float .f64 0, .float .f64 0, .complex .f64 0 0, .float .f64 0, .float .f64 0, .float .f64 0, .float .f64 0, .float .f64 0, .float .f64 0, .float .f64 0, .float .f64 0, .slice none 0 0, .bool q.a, .int .i64 q.c, .bool false] _ hA Try.underlying39 rfl (by kernel_rfl) ?_; simp only [go_sem]) | ((with_reducible show Oper.wp _ { dst := _, op := Op.store 39 _ _, type := _, pos := _, after := _, guard := _ } _ _ _ _); refine wp_store_mid (P := Try.prog) 39 _ _ rfl (w.heap.size + 1) (0) #[.int .u8 q.k, .float .f64 0, .float .f64 0, .complex .f64 0 0, .float .f64 0, .float .f64 0, .float .f64 0, .float .f64 0, .float .f64 0, .float .f64 0, .float .f64 0, .float .f64 0, .slice none 0 0, .bool q.a, .int .i64 q.c, .bool false] rfl rfl hU (by kernel_rfl) (by kernel_rfl) ?_; (try simp only [go_sem])) | go_values | go_skip | go_guarded | go_step | go_upon | go_back | dsimp only)
  refine bodyPost_ret (results_c (c := 2) (ty := 39) rfl rfl (run_loadVar_mid _ (w.heap.size + 1) 0 39 [.int .u8 q.k, .float .f64 0, .float .f64 0, .complex .f64 0 0, .float .f64 0, .float .f64 0, .float .f64 0, .float .f64 0, .float .f64 0, .float .f64 0, .float .f64 0, .float .f64 0, .slice none 0 0, .bool q.a, .int .i64 q.c, .bool false] _ (World.rangeAt_setCells_same _ _ _ _ hU) Try.underlying39 rfl (by kernel_rfl))) rfl ⟨rfl, bel_setsJ _ _ B0 (by omega)⟩

end Go.Proofs.Ytcdnhkjedmmhpaa
