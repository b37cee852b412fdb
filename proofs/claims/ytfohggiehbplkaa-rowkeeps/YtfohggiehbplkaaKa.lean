/-
  What each function of package poly answers, and what the reference of its chapter answers: one contract a function, for every float: the answer stands in the relation of its formula to what was given; of the memory that was there nothing has turned.
-/
import Derived.Test.YtfohggiehbplkaaVec
import Derived.Test.YtfohggiehbplkaaWh
import Derived.Test.YtfohggiehbplkaaOnc2
import Derived.Below
import Derived.WalkKit
import Derived.WalkLawsBesides
import Derived.WalkSpells
import Derived.ProofKit
import Derived.OpenShut
import Derived.Deep.RegionHeld3
namespace Go.Proofs.Ytfohggiehbplkaa
open Go.ChangeShapes Go.WideShapes Go.ChangeAt Go.RowKit
set_option linter.unusedVariables false
set_option linter.unusedSimpArgs false


/-- a point's words, a touch's -/
structure PD where
  x : Nat
  y : Nat
  dp : Nat
  id : Int
  pu : Nat
  dr : Nat
structure TD where
  ta : Int
  tp : Int
  tb : Int
  tq : Int
  ts : Bool
  tx : Nat
  ty : Nat
def pc (q : PD) : List Value := [.float .f64 q.x, .float .f64 q.y, .float .f64 q.dp, .int .u32 q.id, .float .f64 q.pu, .float .f64 q.dr]
def pok (q : PD) : Prop := okK .f64 q.x ∧ okK .f64 q.y ∧ okK .f64 q.dp ∧ okK .f64 q.pu ∧ okK .f64 q.dr
/-- points that lie one behind the other -/
def Pts (w : World) (b off n : Nat) (P : Nat → PD) : Prop := ∀ i, i < n → w.rangeAt b (off + i * 6) (pc (P i))
theorem Pts.bel {w w' : World} {b off n : Nat} {P : Nat → PD} (h : Pts w b off n P) (g : Bel w w') : Pts w' b off n P := fun i hi => rng_bel (h i hi) g
theorem Pts.pre {w : World} {b off n k : Nat} {P : Nat → PD} (h : Pts w b off n P) (hk : k ≤ n) : Pts w b off k P := fun i hi => h i (Nat.lt_of_lt_of_le hi hk)
theorem Pts.lt {w : World} {b off n : Nat} {P : Nat → PD} (h : Pts w b off n P) (hn : 0 < n) : b < w.heap.size := World.block_lt_of_cell? w _ (h 0 hn 0 _ rfl)
def anyN (p : Nat → Bool) : Nat → Bool
  | 0 => false
  | k + 1 => anyN p k || p k
theorem anyN_at {p : Nat → Bool} {k : Nat} (h : p k = true) : ∀ {n : Nat}, k < n → anyN p n = true
  | 0, hk => by omega
  | n + 1, hk => by
    unfold anyN
    rcases Nat.lt_or_ge k n with g | g
    · rw [anyN_at h g]; rfl
    · have e : k = n := by omega
      subst e; rw [h]; simp
def ptB (n : Int) : Bool := decide (0 ≤ n ∧ n < 8)
def prB (T : TD) : Bool := decide (0 ≤ T.ta) && (decide (0 ≤ T.tb) && ((T.ta != T.tb) && (ptB T.tp && ptB T.tq)))
def wkP (x : Nat) : Bool := withinK .f64 x 4787326403894837248
def poB (q : PD) : Bool := (withinK .f64 q.x 4796333603149578240 && withinK .f64 q.y 4796333603149578240) && (leK .f64 0 q.dp && (leK .f64 q.dp 4796333603149578240 && (wkP q.pu && wkP q.dr)))
def hasB (P : Nat → PD) (id : Int) (n : Nat) : Bool := anyN (fun j => decide ((P j).id = id)) n
def dupB (P : Nat → PD) (k : Nat) : Bool := hasB P (P k).id k
def allP (P : Nat → PD) : Nat → Bool
  | 0 => true
  | k + 1 => allP P k && (!dupB P k && poB (P k))
theorem allP_no {P : Nat → PD} {k : Nat} (h : (!dupB P k && poB (P k)) = false) : ∀ {j : Nat}, k < j → allP P j = false
  | 0, hk => by omega
  | j + 1, hk => by
    unfold allP
    rcases Nat.lt_or_ge k j with g | g
    · rw [allP_no h g]; rfl
    · have e : k = j := by omega
      subst e; rw [h]; simp
/-- the square of a normal is 1 up to 2^-40 -/
noncomputable def unB (x y : Nat) : Bool := @decide (∃ t, DotR x y x y t ∧ (leK .f64 4607182418800009216 t && leK .f64 t 4607182418800021504) = true) (Classical.propDecidable _)
theorem smT_cases {t t' : Nat} (h : smK .f64 t t' = true) : t = t' ∨ (nanK .f64 t = true ∧ nanK .f64 t' = true) := by
  unfold smK at h
  simp at h
  rcases h with h | h
  · exact .inr h
  · exact .inl h.2
theorem leT_smR {t t' c : Nat} (h : smK .f64 t t' = true) : leK .f64 c t = leK .f64 c t' := by
  rcases smT_cases h with rfl | ⟨h1, h2⟩
  · rfl
  · unfold leK; rw [h1, h2]; simp
theorem leT_smL {t t' c : Nat} (h : smK .f64 t t' = true) : leK .f64 t c = leK .f64 t' c := by
  rcases smT_cases h with rfl | ⟨h1, h2⟩
  · rfl
  · unfold leK; rw [h1, h2]; simp
theorem un_is {x y t : Nat} (h : DotR x y x y t) : unB x y = (leK .f64 4607182418800009216 t && leK .f64 t 4607182418800021504) := by
  unfold unB
  cases hv : (leK .f64 4607182418800009216 t && leK .f64 t 4607182418800021504)
  · refine @decide_eq_false _ (Classical.propDecidable _) ?_
    rintro ⟨t', g, e⟩
    rw [← leT_smR (h.sm g), ← leT_smL (h.sm g), hv] at e
    cases e
  · exact @decide_eq_true _ (Classical.propDecidable _) ⟨t, h, hv⟩
noncomputable def frB (T : TD) : Bool := prB T && ((withinK .f64 T.tx 4611686018427387904 && withinK .f64 T.ty 4611686018427387904) && unB T.tx T.ty)
/-- what Check of a touch says -/
noncomputable def ckE (T : TD) (n : Nat) (P : Nat → PD) : Int := if frB T = true ∧ (1 ≤ n ∧ n ≤ 8) ∧ allP P n = true then 0 else 2
theorem ck_two {T : TD} {n : Nat} {P : Nat → PD} (h : ¬ (frB T = true ∧ (1 ≤ n ∧ n ≤ 8) ∧ allP P n = true)) : ckE T n P = 2 := if_neg h
theorem ck_or (T : TD) (n : Nat) (P : Nat → PD) : ckE T n P = 0 ∨ ckE T n P = 2 := by
  unfold ckE; split
  · exact .inl rfl
  · exact .inr rfl
theorem isPart_w (n : Int) (w : World) : Calls Try.prog 138 #[.int .i64 n] w fun e w' => e = .returned (.bool (ptB n)) ∧ w' = w := by
  by_cases a1 : 0 ≤ n
  · by_cases a2 : n < 8
    · have e : ptB n = true := by unfold ptB; simp; omega
      rw [e]
      go_enter Try.func138, Try.ntmps138
      repeat (first | go_values | go_skip | go_guarded | go_step | go_upon | go_back | dsimp only)
      go_ret
      exact ⟨rfl, rfl⟩
    · have e : ptB n = false := by unfold ptB; simp; omega
      have a3 : 8 ≤ n := by omega
      rw [e]
      go_enter Try.func138, Try.ntmps138
      repeat (first | go_values | go_skip | go_guarded | go_step | go_upon | go_back | dsimp only)
      go_ret
      exact ⟨rfl, rfl⟩
  · have e : ptB n = false := by unfold ptB; simp; omega
    have a3 : n < 0 := by omega
    rw [e]
    go_enter Try.func138, Try.ntmps138
    repeat (first | go_values | go_skip | go_guarded | go_step | go_upon | go_back | dsimp only)
    go_ret
    exact ⟨rfl, rfl⟩

set_option maxRecDepth 100000 in
set_option maxHeartbeats 4000000 in
theorem isPair_w (T : TD) (w : World) : Calls Try.prog 88 #[.agg #[.int .i64 T.ta, .int .i64 T.tp, .int .i64 T.tb, .int .i64 T.tq]] w fun e w' => e = .returned (.bool (prB T)) ∧ Bel w w' := by
  have hA : (w.alloc (.cells #[.int .i64 T.ta, .int .i64 T.tp, .int .i64 T.tb, .int .i64 T.tq] 23)).rangeAt w.heap.size 0 [.int .i64 T.ta, .int .i64 T.tp, .int .i64 T.tb, .int .i64 T.tq] := rng_new w [.int .i64 T.ta, .int .i64 T.tp, .int .i64 T.tb, .int .i64 T.tq] 23
  have k0 : (w.alloc (.cells #[.int .i64 T.ta, .int .i64 T.tp, .int .i64 T.tb, .int .i64 T.tq] 23)).cell? ⟨w.heap.size, 0, none⟩ = some (.int .i64 T.ta) := hA 0 _ rfl
  have k1 : (w.alloc (.cells #[.int .i64 T.ta, .int .i64 T.tp, .int .i64 T.tb, .int .i64 T.tq] 23)).cell? ⟨w.heap.size, 1, none⟩ = some (.int .i64 T.tp) := hA 1 _ rfl
  have k2 : (w.alloc (.cells #[.int .i64 T.ta, .int .i64 T.tp, .int .i64 T.tb, .int .i64 T.tq] 23)).cell? ⟨w.heap.size, 2, none⟩ = some (.int .i64 T.tb) := hA 2 _ rfl
  have k3 : (w.alloc (.cells #[.int .i64 T.ta, .int .i64 T.tp, .int .i64 T.tb, .int .i64 T.tq] 23)).cell? ⟨w.heap.size, 3, none⟩ = some (.int .i64 T.tq) := hA 3 _ rfl
  have B0 : Bel w (w.alloc (.cells #[.int .i64 T.ta, .int .i64 T.tp, .int .i64 T.tb, .int .i64 T.tq] 23)) := bl_alloc (bl_refl w) _ _
  clear hA
  by_cases h0 : 0 ≤ T.ta
  rotate_left
  · have nh0 : T.ta < 0 := by omega
    have e : prB T = false := by simp [prB, h0]
    rw [e]
    go_enter Try.func88, Try.ntmps88
    repeat (first | (go_at_call 138; (with_reducible refine (isPart_w _ _).mono ?_); rintro e w' ⟨rfl, rfl⟩; first | rw [h3] | rw [h4]) | go_values | go_skip | go_guarded | go_step | go_upon | go_back | dsimp only)
    go_ret
    exact ⟨rfl, B0⟩
  by_cases h1 : 0 ≤ T.tb
  rotate_left
  · have nh1 : T.tb < 0 := by omega
    have e : prB T = false := by simp [prB, h0, h1]
    rw [e]
    go_enter Try.func88, Try.ntmps88
    repeat (first | (go_at_call 138; (with_reducible refine (isPart_w _ _).mono ?_); rintro e w' ⟨rfl, rfl⟩; first | rw [h3] | rw [h4]) | go_values | go_skip | go_guarded | go_step | go_upon | go_back | dsimp only)
    go_ret
    exact ⟨rfl, B0⟩
  cases h2 : (T.ta != T.tb)
  · have e : prB T = false := by simp [prB, h0, h1, h2]
    rw [e]
    go_enter Try.func88, Try.ntmps88
    repeat (first | (go_at_call 138; (with_reducible refine (isPart_w _ _).mono ?_); rintro e w' ⟨rfl, rfl⟩; first | rw [h3] | rw [h4]) | go_values | go_skip | go_guarded | go_step | go_upon | go_back | dsimp only)
    go_ret
    exact ⟨rfl, B0⟩
  cases h3 : ptB T.tp
  · have e : prB T = false := by simp [prB, h0, h1, h2, h3]
    rw [e]
    go_enter Try.func88, Try.ntmps88
    repeat (first | (go_at_call 138; (with_reducible refine (isPart_w _ _).mono ?_); rintro e w' ⟨rfl, rfl⟩; first | rw [h3] | rw [h4]) | go_values | go_skip | go_guarded | go_step | go_upon | go_back | dsimp only)
    go_ret
    exact ⟨rfl, B0⟩
  cases h4 : ptB T.tq
  · have e : prB T = false := by simp [prB, h0, h1, h2, h3, h4]
    rw [e]
    go_enter Try.func88, Try.ntmps88
    repeat (first | (go_at_call 138; (with_reducible refine (isPart_w _ _).mono ?_); rintro e w' ⟨rfl, rfl⟩; first | rw [h3] | rw [h4]) | go_values | go_skip | go_guarded | go_step | go_upon | go_back | dsimp only)
    go_ret
    exact ⟨rfl, B0⟩
  have e : prB T = true := by simp [prB, h0, h1, h2, h3, h4]
  rw [e]
  go_enter Try.func88, Try.ntmps88
  repeat (first | (go_at_call 138; (with_reducible refine (isPart_w _ _).mono ?_); rintro e w' ⟨rfl, rfl⟩; first | rw [h3] | rw [h4]) | go_values | go_skip | go_guarded | go_step | go_upon | go_back | dsimp only)
  go_ret
  exact ⟨rfl, B0⟩

set_option maxRecDepth 100000 in
set_option maxHeartbeats 4000000 in
theorem isUnit_w (x y : Nat) (w : World) : Calls Try.prog 90 #[.agg #[.float .f64 x, .float .f64 y]] w fun e w' => e = .returned (.bool (unB x y)) ∧ Bel w w' := by
  have c1 := cmp_ge .f64
  have c2 := cmp_le .f64
  have B0 : Bel w (w.alloc (.cells #[.float .f64 x, .float .f64 y] 26)) := bl_alloc (bl_refl w) _ _
  have hA : (w.alloc (.cells #[.float .f64 x, .float .f64 y] 26)).rangeAt w.heap.size 0 [.float .f64 x, .float .f64 y] := rng_new w [.float .f64 x, .float .f64 y] 26
  go_enter Try.func90, Try.ntmps90
  repeat (first | ((with_reducible show Oper.wp _ { dst := _, op := Op.load 26 _, type := _, pos := _, after := _, guard := _ } _ _ _ _); refine wp_load_mid (P := Try.prog) 26 _ rfl _ _ rfl [.float .f64 x, .float .f64 y] _ hA Try.underlying26 rfl (by kernel_rfl) ?_; simp only [go_sem]) | (go_at_call 65; (with_reducible refine (vSquare_any x y _).mono ?_); rintro e w' ⟨r, hr, rfl, hb⟩; have eU := un_is hr; cases h1 : leK .f64 4607182418800009216 r) | go_values | go_skip | go_guarded | go_step | go_upon | go_back | dsimp only)
  all_goals
    repeat (first | go_values | go_skip | go_guarded | go_step | go_upon | go_back | dsimp only)
    go_ret
    exact ⟨by rw [eU, h1]; rfl, bl_trans B0 hb⟩

set_option maxRecDepth 100000 in
set_option maxHeartbeats 4000000 in
theorem isPoint_w (q : PD) (w : World) (oq : pok q) : Calls Try.prog 92 #[.agg #[.float .f64 q.x, .float .f64 q.y, .float .f64 q.dp, .int .u32 q.id, .float .f64 q.pu, .float .f64 q.dr]] w fun e w' => e = .returned (.bool (poB q)) ∧ Bel w w' := by
  have c1 := cmp_ge .f64
  have c2 := cmp_le .f64
  obtain ⟨o0, o1, o2, o3, o4⟩ := oq
  have okM : okK .f64 4787326403894837248 := by rw [okK64]; decide
  have hA : (w.alloc (.cells #[.float .f64 q.x, .float .f64 q.y, .float .f64 q.dp, .int .u32 q.id, .float .f64 q.pu, .float .f64 q.dr] 39)).rangeAt w.heap.size 0 [.float .f64 q.x, .float .f64 q.y, .float .f64 q.dp, .int .u32 q.id, .float .f64 q.pu, .float .f64 q.dr] := rng_new w [.float .f64 q.x, .float .f64 q.y, .float .f64 q.dp, .int .u32 q.id, .float .f64 q.pu, .float .f64 q.dr] 39
  have k0 : (w.alloc (.cells #[.float .f64 q.x, .float .f64 q.y, .float .f64 q.dp, .int .u32 q.id, .float .f64 q.pu, .float .f64 q.dr] 39)).cell? ⟨w.heap.size, 0, none⟩ = some (.float .f64 q.x) := hA 0 _ rfl
  have k1 : (w.alloc (.cells #[.float .f64 q.x, .float .f64 q.y, .float .f64 q.dp, .int .u32 q.id, .float .f64 q.pu, .float .f64 q.dr] 39)).cell? ⟨w.heap.size, 1, none⟩ = some (.float .f64 q.y) := hA 1 _ rfl
  have k2 : (w.alloc (.cells #[.float .f64 q.x, .float .f64 q.y, .float .f64 q.dp, .int .u32 q.id, .float .f64 q.pu, .float .f64 q.dr] 39)).cell? ⟨w.heap.size, 2, none⟩ = some (.float .f64 q.dp) := hA 2 _ rfl
  have k3 : (w.alloc (.cells #[.float .f64 q.x, .float .f64 q.y, .float .f64 q.dp, .int .u32 q.id, .float .f64 q.pu, .float .f64 q.dr] 39)).cell? ⟨w.heap.size, 3, none⟩ = some (.int .u32 q.id) := hA 3 _ rfl
  have k4 : (w.alloc (.cells #[.float .f64 q.x, .float .f64 q.y, .float .f64 q.dp, .int .u32 q.id, .float .f64 q.pu, .float .f64 q.dr] 39)).cell? ⟨w.heap.size, 4, none⟩ = some (.float .f64 q.pu) := hA 4 _ rfl
  have k5 : (w.alloc (.cells #[.float .f64 q.x, .float .f64 q.y, .float .f64 q.dp, .int .u32 q.id, .float .f64 q.pu, .float .f64 q.dr] 39)).cell? ⟨w.heap.size, 5, none⟩ = some (.float .f64 q.dr) := hA 5 _ rfl
  have B0 : Bel w (w.alloc (.cells #[.float .f64 q.x, .float .f64 q.y, .float .f64 q.dp, .int .u32 q.id, .float .f64 q.pu, .float .f64 q.dr] 39)) := bl_alloc (bl_refl w) _ _
  clear hA
  cases h0 : (withinK .f64 q.x 4796333603149578240 && withinK .f64 q.y 4796333603149578240)
  · have e : poB q = false := by unfold poB; rw [h0]; rfl
    rw [e]
    go_enter Try.func92, Try.ntmps92
    repeat (first | (go_at_call 89; (with_reducible refine (vWithin_any q.x q.y 4796333603149578240 _).mono ?_); rintro e w1 ⟨rfl, hb⟩; rw [h0]; have j2 := keep hb k2; have j4 := keep hb k4; have j5 := keep hb k5) | go_values | go_skip | go_guarded | go_step | go_upon | go_back | dsimp only)
    go_ret
    exact ⟨rfl, bl_trans B0 hb⟩
  cases h1 : leK .f64 0 q.dp
  · have e : poB q = false := by unfold poB; rw [h0, h1]; rfl
    rw [e]
    go_enter Try.func92, Try.ntmps92
    repeat (first | (go_at_call 89; (with_reducible refine (vWithin_any q.x q.y 4796333603149578240 _).mono ?_); rintro e w1 ⟨rfl, hb⟩; rw [h0]; have j2 := keep hb k2; have j4 := keep hb k4; have j5 := keep hb k5) | go_values | go_skip | go_guarded | go_step | go_upon | go_back | dsimp only)
    go_ret
    exact ⟨rfl, bl_trans B0 hb⟩
  cases h2 : leK .f64 q.dp 4796333603149578240
  · have e : poB q = false := by unfold poB; rw [h0, h1, h2]; rfl
    rw [e]
    go_enter Try.func92, Try.ntmps92
    repeat (first | (go_at_call 89; (with_reducible refine (vWithin_any q.x q.y 4796333603149578240 _).mono ?_); rintro e w1 ⟨rfl, hb⟩; rw [h0]; have j2 := keep hb k2; have j4 := keep hb k4; have j5 := keep hb k5) | go_values | go_skip | go_guarded | go_step | go_upon | go_back | dsimp only)
    go_ret
    exact ⟨rfl, bl_trans B0 hb⟩
  cases h3 : wkP q.pu
  · have ah3 : leK .f64 (rgK .f64 q.pu) 4787326403894837248 = false := by rw [abs_within q.pu 4787326403894837248 okM]; exact h3
    have e : poB q = false := by unfold poB; rw [h0, h1, h2, h3]; rfl
    rw [e]
    go_enter Try.func92, Try.ntmps92
    repeat (first | (go_at_call 89; (with_reducible refine (vWithin_any q.x q.y 4796333603149578240 _).mono ?_); rintro e w1 ⟨rfl, hb⟩; rw [h0]; have j2 := keep hb k2; have j4 := keep hb k4; have j5 := keep hb k5) | (go_at_call 22; (with_reducible refine (abs_any q.pu _ o3).mono ?_); rintro e w' ⟨rfl, rfl⟩) | go_values | go_skip | go_guarded | go_step | go_upon | go_back | dsimp only)
    go_ret
    exact ⟨rfl, bl_trans B0 hb⟩
  cases h4 : wkP q.dr
  · have ah3 : leK .f64 (rgK .f64 q.pu) 4787326403894837248 = true := by rw [abs_within q.pu 4787326403894837248 okM]; exact h3
    have ah4 : leK .f64 (rgK .f64 q.dr) 4787326403894837248 = false := by rw [abs_within q.dr 4787326403894837248 okM]; exact h4
    have e : poB q = false := by unfold poB; rw [h0, h1, h2, h3, h4]; rfl
    rw [e]
    go_enter Try.func92, Try.ntmps92
    repeat (first | (go_at_call 89; (with_reducible refine (vWithin_any q.x q.y 4796333603149578240 _).mono ?_); rintro e w1 ⟨rfl, hb⟩; rw [h0]; have j2 := keep hb k2; have j4 := keep hb k4; have j5 := keep hb k5) | (go_at_call 22; (with_reducible refine (abs_any q.pu _ o3).mono ?_); rintro e w' ⟨rfl, rfl⟩) | (go_at_call 22; (with_reducible refine (abs_any q.dr _ o4).mono ?_); rintro e w' ⟨rfl, rfl⟩) | go_values | go_skip | go_guarded | go_step | go_upon | go_back | dsimp only)
    go_ret
    exact ⟨rfl, bl_trans B0 hb⟩
  have ah3 : leK .f64 (rgK .f64 q.pu) 4787326403894837248 = true := by rw [abs_within q.pu 4787326403894837248 okM]; exact h3
  have ah4 : leK .f64 (rgK .f64 q.dr) 4787326403894837248 = true := by rw [abs_within q.dr 4787326403894837248 okM]; exact h4
  have e : poB q = true := by unfold poB; rw [h0, h1, h2, h3, h4]; rfl
  rw [e]
  go_enter Try.func92, Try.ntmps92
  repeat (first | (go_at_call 89; (with_reducible refine (vWithin_any q.x q.y 4796333603149578240 _).mono ?_); rintro e w1 ⟨rfl, hb⟩; rw [h0]; have j2 := keep hb k2; have j4 := keep hb k4; have j5 := keep hb k5) | (go_at_call 22; (with_reducible refine (abs_any q.pu _ o3).mono ?_); rintro e w' ⟨rfl, rfl⟩) | (go_at_call 22; (with_reducible refine (abs_any q.dr _ o4).mono ?_); rintro e w' ⟨rfl, rfl⟩) | go_values | go_skip | go_guarded | go_step | go_upon | go_back | dsimp only)
  go_ret
  exact ⟨rfl, bl_trans B0 hb⟩

set_option maxRecDepth 100000 in
set_option maxHeartbeats 4000000 in
theorem find1_w (q : PD) (c : Nat) (id : Int) (w : World) (hc : w.cell? ⟨c, 0, none⟩ = some (.int .u32 id)) : Calls Try.prog 140 #[.agg #[.float .f64 q.x, .float .f64 q.y, .float .f64 q.dp, .int .u32 q.id, .float .f64 q.pu, .float .f64 q.dr], .pointer (some ⟨c, 0, none⟩)] w fun e w' => e = .returned (.bool (decide (q.id = id))) ∧ Bel w w' := by
  have hA : (w.alloc (.cells #[.float .f64 q.x, .float .f64 q.y, .float .f64 q.dp, .int .u32 q.id, .float .f64 q.pu, .float .f64 q.dr] 39)).rangeAt w.heap.size 0 [.float .f64 q.x, .float .f64 q.y, .float .f64 q.dp, .int .u32 q.id, .float .f64 q.pu, .float .f64 q.dr] := rng_new w [.float .f64 q.x, .float .f64 q.y, .float .f64 q.dp, .int .u32 q.id, .float .f64 q.pu, .float .f64 q.dr] 39
  have k3 : (w.alloc (.cells #[.float .f64 q.x, .float .f64 q.y, .float .f64 q.dp, .int .u32 q.id, .float .f64 q.pu, .float .f64 q.dr] 39)).cell? ⟨w.heap.size, 3, none⟩ = some (.int .u32 q.id) := hA 3 _ rfl
  have B0 : Bel w (w.alloc (.cells #[.float .f64 q.x, .float .f64 q.y, .float .f64 q.dp, .int .u32 q.id, .float .f64 q.pu, .float .f64 q.dr] 39)) := bl_alloc (bl_refl w) _ _
  have hc1 := keep B0 hc
  go_enter Try.func140, Try.ntmps140
  repeat (first | go_values | go_skip | go_guarded | go_step | go_upon | go_back | dsimp only)
  go_ret
  exact ⟨rfl, B0⟩
set_option maxRecDepth 100000 in
set_option maxHeartbeats 4000000 in
theorem idxP_w (pb po pn pc_ : Nat) (ps : Option Addr) (P : Nat → PD) (c : Nat) (id : Int) (w : World) (hps : pn = 0 ∨ ps = some ⟨pb, po, none⟩) (hpc : pn ≤ pc_) (hpm : pc_ ≤ maxLen) (hp : Pts w pb po pn P) (op : ∀ i, i < pn → pok (P i)) (hc : w.cell? ⟨c, 0, none⟩ = some (.int .u32 id)) : Calls Try.prog 139 #[.slice ps pn pc_, .func (.func 140) #[] #[.pointer (some ⟨c, 0, none⟩)]] w fun e w' => ∃ r : Int, decide (0 ≤ r) = (hasB P id pn) ∧ r < pn ∧ e = .returned (.int .i64 r) ∧ Bel w w' := by
  unfold maxLen at hpm
  go_enter Try.func139, Try.ntmps139
  go_wp2
  go_loopw [8] (fun i wr => ∃ k : Nat, k ≤ pn ∧ i = .int .i64 k ∧ Bel w wr ∧ hasB P id k = false) (fun i _ => pn - (intOf i).toNat)
  case atStart => exact ⟨0, by omega, rfl, bl_refl _, rfl⟩
  case round =>
    obtain ⟨k, hk, rfl, hB, hq⟩ := hrel
    by_cases hlt : k < pn
    · have e9 : ps = some ⟨pb, po, none⟩ := by rcases hps with h | h; omega; exact h
      subst e9
      have hld : wr.rangeAt pb (po + k * 6) [.float .f64 (P k).x, .float .f64 (P k).y, .float .f64 (P k).dp, .int .u32 (P k).id, .float .f64 (P k).pu, .float .f64 (P k).dr] := (hp.bel hB) k hlt
      have hkI : (k : Int) < (pn : Int) := by omega
      have hcI : (k : Int) < (pc_ : Int) := by omega
      repeat (first | ((with_reducible show Oper.wp _ { dst := _, op := Op.load 39 _, type := _, pos := _, after := _, guard := _ } _ _ _ _); refine wp_load_mid (P := Try.prog) 39 _ rfl _ _ rfl [.float .f64 (P k).x, .float .f64 (P k).y, .float .f64 (P k).dp, .int .u32 (P k).id, .float .f64 (P k).pu, .float .f64 (P k).dr] _ hld Try.underlying39 rfl (by kernel_rfl) ?_; simp only [go_sem]) | (go_at_call 140; (with_reducible refine (find1_w (P k) c id _ (keep hB hc)).mono ?_); rintro e w' ⟨rfl, hb⟩; cases h : decide ((P k).id = id)) | go_values | go_skip | go_guarded | go_step | go_upon | go_back | dsimp only)
      · repeat (first | go_values | go_skip | go_guarded | go_step | go_upon | go_back | dsimp only)
        refine ⟨⟨k + 1, by omega, by go_num, bl_trans hB hb, ?_⟩, by simp [intOf]; omega⟩
        unfold hasB anyN
        unfold hasB at hq
        rw [hq, h]
        rfl
      · repeat (first | go_values | go_skip | go_guarded | go_step | go_upon | go_back | dsimp only)
        go_ret
        refine ⟨k, ?_, hkI, rfl, bl_trans hB hb⟩
        unfold hasB
        rw [anyN_at (p := fun j => decide ((P j).id = id)) h hlt]
        simp
    · have hkn : k = pn := by omega
      subst hkn
      repeat (first | go_values | go_skip | go_guarded | go_step | go_upon | go_back | dsimp only)
      go_ret
      exact ⟨-1, by rw [hq]; rfl, by omega, rfl, hB⟩
set_option maxRecDepth 100000 in
set_option maxHeartbeats 4000000 in
theorem find_w (pb po pn pc_ : Nat) (ps : Option Addr) (P : Nat → PD) (id : Int) (w : World) (hps : pn = 0 ∨ ps = some ⟨pb, po, none⟩) (hpc : pn ≤ pc_) (hpm : pc_ ≤ maxLen) (hp : Pts w pb po pn P) (op : ∀ i, i < pn → pok (P i)) : Calls Try.prog 91 #[.slice ps pn pc_, .int .u32 id] w fun e w' => ∃ q : PD, e = .returned (.tuple #[.agg #[.float .f64 q.x, .float .f64 q.y, .float .f64 q.dp, .int .u32 q.id, .float .f64 q.pu, .float .f64 q.dr], .bool (hasB P id pn)]) ∧ Bel w w' := by
  have hm0 := hpm
  unfold maxLen at hm0
  have B0 : Bel w ((w.alloc (.cells #[.int .u32 id] 37)).alloc (.cells #[.float .f64 0, .float .f64 0, .float .f64 0, .int .u32 0, .float .f64 0, .float .f64 0] 39)) := bl_alloc (bl_alloc (bl_refl w) _ _) _ _
  have c0 : ((w.alloc (.cells #[.int .u32 id] 37)).alloc (.cells #[.float .f64 0, .float .f64 0, .float .f64 0, .int .u32 0, .float .f64 0, .float .f64 0] 39)).cell? ⟨w.heap.size, 0, none⟩ = some (.int .u32 id) := up_alloc (by rw [World.cell?_alloc_new]; rfl)
  have hU : ((w.alloc (.cells #[.int .u32 id] 37)).alloc (.cells #[.float .f64 0, .float .f64 0, .float .f64 0, .int .u32 0, .float .f64 0, .float .f64 0] 39)).there (w.heap.size + 1) 0 6 := by have h := there_new (w.alloc (.cells #[.int .u32 id] 37)) [.float .f64 0, .float .f64 0, .float .f64 0, .int .u32 0, .float .f64 0, .float .f64 0] 39; rwa [World.size_alloc] at h
  go_enter Try.func91, Try.ntmps91
  repeat (first | (go_at_call 139; (with_reducible refine (idxP_w pb po pn pc_ ps P w.heap.size id _ hps hpc hpm (hp.bel B0) op c0).mono ?_); rintro e w' ⟨r, hr, hrn, rfl, hb⟩; have hU2 := bel_there hU hb; have B := bl_trans B0 hb; by_cases h0 : r < 0) | ((with_reducible show Oper.wp _ { dst := _, op := Op.build 39 _, type := _, pos := _, after := _, guard := _ } _ _ _ _); refine wp_build 39 _ rfl (.agg #[.float .f64 0, .float .f64 0, .float .f64 0, .int .u32 0, .float .f64 0, .float .f64 0]) (by kernel_rfl) ?_; simp only [go_sem]) | ((with_reducible show Oper.wp _ { dst := _, op := Op.store 39 _ _, type := _, pos := _, after := _, guard := _ } _ _ _ _); refine wp_store_mid (P := Try.prog) 39 _ _ rfl (w.heap.size + 1) (0) #[.float .f64 0, .float .f64 0, .float .f64 0, .int .u32 0, .float .f64 0, .float .f64 0] rfl rfl hU2 (by kernel_rfl) (by kernel_rfl) ?_; (try simp only [go_sem])) | go_values | go_skip | go_guarded | go_step | go_upon | go_back | dsimp only)
  · have e : (hasB P id pn) = false := by rw [← hr]; simp; omega
    repeat (first | ((with_reducible show Oper.wp _ { dst := _, op := Op.build 39 _, type := _, pos := _, after := _, guard := _ } _ _ _ _); refine wp_build 39 _ rfl (.agg #[.float .f64 0, .float .f64 0, .float .f64 0, .int .u32 0, .float .f64 0, .float .f64 0]) (by kernel_rfl) ?_; simp only [go_sem]) | ((with_reducible show Oper.wp _ { dst := _, op := Op.store 39 _ _, type := _, pos := _, after := _, guard := _ } _ _ _ _); refine wp_store_mid (P := Try.prog) 39 _ _ rfl (w.heap.size + 1) (0) #[.float .f64 0, .float .f64 0, .float .f64 0, .int .u32 0, .float .f64 0, .float .f64 0] rfl rfl hU2 (by kernel_rfl) (by kernel_rfl) ?_; (try simp only [go_sem])) | go_values | go_skip | go_guarded | go_step | go_upon | go_back | dsimp only)
    refine bodyPost_ret (results_ct (c := 4) (r := 5) (ty := 39) rfl rfl (run_loadVar_mid _ (w.heap.size + 1) 0 39 [.float .f64 0, .float .f64 0, .float .f64 0, .int .u32 0, .float .f64 0, .float .f64 0] _ (World.rangeAt_setCells_same _ _ _ _ hU2) Try.underlying39 rfl (by kernel_rfl)) rfl) rfl ?_
    refine ⟨⟨0, 0, 0, 0, 0, 0⟩, by rw [e]; rfl, bel_setsJ _ _ B (by omega)⟩
  · have e : (hasB P id pn) = true := by rw [← hr]; simp; omega
    have hrl : r.toNat < pn := by omega
    have e9 : ps = some ⟨pb, po, none⟩ := by rcases hps with h | h; omega; exact h
    subst e9
    have hld : w'.rangeAt pb (po + r.toNat * 6) [.float .f64 (P r.toNat).x, .float .f64 (P r.toNat).y, .float .f64 (P r.toNat).dp, .int .u32 (P r.toNat).id, .float .f64 (P r.toNat).pu, .float .f64 (P r.toNat).dr] := (hp.bel B) _ hrl
    obtain ⟨k, rfl⟩ : ∃ k : Nat, r = (k : Int) := ⟨r.toNat, by omega⟩
    rw [Int.toNat_natCast] at hld hrl
    have hkI : (k : Int) < (pn : Int) := by omega
    have hcI : (k : Int) < (pc_ : Int) := by omega
    repeat (first | ((with_reducible show Oper.wp _ { dst := _, op := Op.load 39 _, type := _, pos := _, after := _, guard := _ } _ _ _ _); refine wp_load_mid (P := Try.prog) 39 _ rfl _ _ rfl [.float .f64 (P k).x, .float .f64 (P k).y, .float .f64 (P k).dp, .int .u32 (P k).id, .float .f64 (P k).pu, .float .f64 (P k).dr] _ hld Try.underlying39 rfl (by kernel_rfl) ?_; simp only [go_sem]) | ((with_reducible show Oper.wp _ { dst := _, op := Op.store 39 _ _, type := _, pos := _, after := _, guard := _ } _ _ _ _); refine wp_store_mid (P := Try.prog) 39 _ _ rfl (w.heap.size + 1) (0) #[.float .f64 (P k).x, .float .f64 (P k).y, .float .f64 (P k).dp, .int .u32 (P k).id, .float .f64 (P k).pu, .float .f64 (P k).dr] rfl rfl hU2 (by kernel_rfl) (by kernel_rfl) ?_; (try simp only [go_sem])) | go_values | go_skip | go_guarded | go_step | go_upon | go_back | dsimp only)
    refine bodyPost_ret (results_ct (c := 4) (r := 5) (ty := 39) rfl rfl (run_loadVar_mid _ (w.heap.size + 1) 0 39 [.float .f64 (P k).x, .float .f64 (P k).y, .float .f64 (P k).dp, .int .u32 (P k).id, .float .f64 (P k).pu, .float .f64 (P k).dr] _ (World.rangeAt_setCells_same _ _ _ _ hU2) Try.underlying39 rfl (by kernel_rfl)) rfl) rfl ?_
    refine ⟨P k, by rw [e]; rfl, bel_setsJ _ _ B (by omega)⟩

end Go.Proofs.Ytfohggiehbplkaa
