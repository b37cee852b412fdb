/-
  What each function of package poly answers, and what the reference of its chapter answers: one contract a function, for every float: the answer stands in the relation of its formula to what was given; of the memory that was there nothing has turned.
-/
import Derived.Test.YtnbkjkbgfcpcfaaVec
import Derived.Test.YtnbkjkbgfcpcfaaSq
import Derived.Test.YtnbkjkbgfcpcfaaPj
import Derived.Below
import Derived.Laws.MakeOwn
import Derived.Laws.StructEq
import Derived.Deep.LoopGhost
import Derived.BigQuiet
import Derived.WalkKit
import Derived.WalkLawsBesides
import Derived.WalkSpells
import Derived.ProofKit
import Derived.OpenShut
import Derived.Deep.RegionHeld3
namespace Go.Proofs.Ytnbkjkbgfcpcfaa
open Go.ChangeShapes Go.WideShapes Go.ChangeAt Go.RowKit
set_option linter.unusedVariables false
set_option linter.unusedSimpArgs false


theorem one_laid (W : World) (x y : Nat) : Sl (W.alloc (.cells #[.float .f64 x, .float .f64 y] 36)) W.heap.size 0 1 (px [(x, y)]) (py [(x, y)]) := by
  intro i hi
  rcases (show i = 0 by omega) with rfl
  constructor <;> (rw [World.cell?_alloc_new]; rfl)
/-- behind a row with no room -/
theorem run_app_full {base : Nat} {w : World} {g : Nat} {L M : List Pt} (ty a ao c : Nat) (h4 : Sl w g 0 L.length (px L) (py L)) (hs : Sl w a ao M.length (px M) (py M)) (hM : 0 < M.length) (hb : base ≤ w.heap.size) (hr : (L.length + M.length) * 16 ≤ 140737488355328) :
    ∃ v' w', (Builtin.append_ #[22, 22] ty #[.slice (some ⟨g, 0, none⟩) L.length L.length, .slice (some ⟨a, ao, none⟩) M.length c]).run Try.prog w = .ok v' w' ∧ Own base w' v' (L ++ M) ∧ ∀ W0, Bel W0 w → Bel W0 w' := by
  obtain ⟨i0, hi, hz0, hz1, hz2⟩ := info_parts info_vec
  have hml : L.length + M.length ≤ maxLen := by unfold maxLen; omega
  have zs : ∀ k, (Builtin.zeroCells (.agg #[.float .f64 0, .float .f64 0] : Value).cells k).size = k * 2 := fun k => by rw [size_zeroCells]; rfl
  have hge := grownCap_ge w (L.length + M.length) L.length 36
  have hcm := grownCap_le_maxLen w (L.length + M.length) L.length 36 hml
  have hr' := run_append_grow (P := Try.prog) w 22 ty 36 i0 (.agg #[.float .f64 0, .float .f64 0]) Try.underlying22 hi hz0 ⟨g, 0, none⟩ L.length L.length (prRow (px L) (py L) L.length) (by rw [hz1, prRow_length]) (prRow_cells h4) ⟨a, ao, none⟩ M.length c (prRow (px M) (py M) M.length) (by rw [hz1, prRow_length]) (prRow_cells hs) (by omega) (by unfold maxLen at hml; omega) (by rw [hz2]; exact growslice_fits (by omega) hr)
  refine ⟨_, _, hr', ?_, fun W0 h0 => bl_alloc (bl_drew h0) _ _⟩
  have hg := own_new (w := w.drew) (L := L ++ M) (cap := grownCap w (L.length + M.length) L.length 36) (cs := (prRow (px L) (py L) L.length).toArray ++ (prRow (px M) (py M) M.length).toArray ++ Builtin.zeroCells (.agg #[.float .f64 0, .float .f64 0] : Value).cells (grownCap w (L.length + M.length) L.length 36 - (L.length + M.length))) hb (by rw [List.length_append]; exact hge) hcm (by simp only [Array.size_append, List.size_toArray, prRow_length, zs]; omega) (fun j hj => by
    rw [List.length_append] at hj
    rw [Array.getElem?_append_left (by simp only [Array.size_append, List.size_toArray, prRow_length]; omega), ← prRow_app, ← List.getElem?_toArray]
    simp)
  rw [List.length_append] at hg
  exact hg
theorem oper_app {o : Oper} {A : Act} {w w' : World} {v u v' : Value} {K : Act → World → Prop} {C : Exit → Act → World → Prop} (s x : Operand) (ho : o.op = .call { callee := .builtin .append, args := #[s, x], argTypes := #[22, 22] }) (hv : A.eval s = v) (hx : A.eval x = u)
    (hrun : (Builtin.append_ #[22, 22] o.type #[v, u]).run Try.prog w = .ok v' w') (hK : K (A.put o.dst v') w') : Oper.wp Try.prog o A w K C := by
  unfold Oper.wp
  simp [execOp, ho, resolve, invoke, builtin, hv, hx, hrun, Result.andThen]
  exact hK
theorem own_form {base : Nat} {W : World} {v : Value} {L : List Pt} {p : Pt} (h : Own base W v (L ++ [p])) : ∃ g n cap, v = .slice (some ⟨g, 0, none⟩) n cap := by
  rcases h with ⟨_, h⟩ | ⟨g, cap, h, _⟩
  · simp at h
  · exact ⟨g, _, cap, h⟩
theorem own_form2 {base : Nat} {W : World} {v : Value} (h : Own base W v (circleL ++ [(0, 0)])) : ∃ g cap, v = .slice (some ⟨g, 0, none⟩) 2 cap := by
  rcases h with ⟨_, h⟩ | ⟨g, cap, h, _⟩
  · cases h
  · exact ⟨g, cap, h⟩
theorem own_any {base p o : Nat} {W : World} {v u : Value} {L : List Pt} (h : Own base W v L) (h0 : 0 < L.length) (h8 : L.length ≤ 8) (ok : Oks (px L) (py L) L.length) (hp : p < base) : AnyS (W.setCell ⟨p, o, none⟩ u) v L.length (px L) (py L) := by
  rcases h with ⟨_, h⟩ | ⟨g, cap, e, h1, h2, h3, h4, _⟩
  · rw [h] at h0; simp at h0
  · exact ⟨_, _, e, h2, Nat.le_trans h8 (by unfold maxLen; decide), by omega, ok, .inr ⟨h0, g, 0, rfl, h4.far (by omega)⟩⟩
theorem put_far {W : World} {p q o i : Nat} {u v : Value} (h : W.cell? ⟨q, i, none⟩ = some v) (hp : p ≠ q ∨ o ≠ i) : (W.setCell ⟨p, o, none⟩ u).cell? ⟨q, i, none⟩ = some v := by
  rw [World.cell?_setCell_other (h := fun e => by cases e; rcases hp with h | h <;> exact h rfl)]; exact h
theorem own_any0 {base : Nat} {W : World} {v : Value} {L : List Pt} (h : Own base W v L) (h0 : 0 < L.length) (h8 : L.length ≤ 8) (ok : Oks (px L) (py L) L.length) : AnyS W v L.length (px L) (py L) := by
  rcases h with ⟨_, h⟩ | ⟨g, cap, e, h1, h2, h3, h4, _⟩
  · rw [h] at h0; simp at h0
  · exact ⟨_, _, e, h2, Nat.le_trans h8 (by unfold maxLen; decide), by omega, ok, .inr ⟨h0, g, 0, rfl, h4⟩⟩
theorem run_points (k : Int) (r : Nat) (s : Option Addr) (n c : Nat) (w : World) : (Instr.field 33 (.agg #[.int .u8 k, .float .f64 r, .slice s n c]) 2).run Try.prog w = .ok (.slice s n c) w := by
  simp [Instr.field, run_underlying Try.underlying33, part, asAgg, sizeOf, go_sem]
theorem own_set {base p o : Nat} {W : World} {v u : Value} {L : List Pt} (h : Own base W v L) (hp : p < base) : Own base (W.setCell ⟨p, o, none⟩ u) v L := by
  rcases h with h | ⟨g, cap, e, h1, h2, h3, h4, h5, h6⟩
  · exact .inl h
  · refine .inr ⟨g, cap, e, h1, h2, h3, h4.far (by omega), fun j hj => ?_, fun o => (World.frozen?_setCell ..).trans (h6 o)⟩
    obtain ⟨x, hx⟩ := Option.isSome_iff_exists.1 (h5 j hj)
    rw [put_far hx (.inl (by omega))]; rfl
theorem any_set {W : World} {b n m p o : Nat} {xs ys : Nat → Nat} {u : Value} (h : AnyS W (.slice (some ⟨b, 0, none⟩) n m) n xs ys) (hp : p ≠ b) : AnyS (W.setCell ⟨p, o, none⟩ u) (.slice (some ⟨b, 0, none⟩) n m) n xs ys := by
  obtain ⟨a, cap, e, h2, h3, h4, h5, h6⟩ := h
  cases e
  refine ⟨_, _, rfl, h2, h3, h4, h5, ?_⟩
  rcases h6 with h6 | ⟨h6, b', off, e, h7⟩
  · exact .inl h6
  · cases e; exact .inr ⟨h6, b, 0, rfl, h7.far hp⟩
theorem any_lt {W : World} {b n m : Nat} {xs ys : Nat → Nat} (h : AnyS W (.slice (some ⟨b, 0, none⟩) n m) n xs ys) (h0 : 0 < n) : b < W.heap.size := by
  obtain ⟨a, cap, e, h2, h3, h4, h5, h6⟩ := h
  cases e
  rcases h6 with h6 | ⟨h6, b', off, e, h7⟩
  · omega
  · cases e; exact h7.lt h6
theorem any_sl {W : World} {b n m : Nat} {xs ys : Nat → Nat} (h : AnyS W (.slice (some ⟨b, 0, none⟩) n m) n xs ys) (h0 : 0 < n) : Sl W b 0 n xs ys := by
  obtain ⟨a, cap, e, h2, h3, h4, h5, h6⟩ := h
  cases e
  rcases h6 with h6 | ⟨h6, b', off, e, h7⟩
  · omega
  · cases e; exact h7
theorem bel_both {A W : World} (h : Bel A W) (a : Addr) (v : Value) : Bel (A.setCell a v) (W.setCell a v) := by
  refine ⟨⟨h.1.os, h.1.tape, h.1.output, by simpa using h.1.size, fun k hk => ?_⟩, fun x => by simpa using h.2 x⟩
  have e := h.1.block k (by simpa using hk)
  simp only [World.setCell, Array.getElem?_modify]
  rw [e]
def twoL : List Pt := circleL ++ [(0, 0)]
def smallL : List Pt := [(0, 0), (4481081629233643520, 0), (4481081629233643520, 4481081629233643520), (0, 4481081629233643520)]
theorem two_oks : Oks (px twoL) (py twoL) 2 := by
  intro i hi
  rcases (show i = 0 ∨ i = 1 by omega) with rfl | rfl
  all_goals (constructor <;> (rw [okK64]; decide))
theorem small_oks : Oks (px smallL) (py smallL) 4 := by
  intro i hi
  rcases (show i = 0 ∨ i = 1 ∨ i = 2 ∨ i = 3 by omega) with rfl | rfl | rfl | rfl
  all_goals (constructor <;> (rw [okK64]; decide))
theorem small_at {k : Nat} (hk : k < 4) : finK .f64 (px squareL k) = true ∧ finK .f64 (py squareL k) = true ∧ smallL.take (k + 1) = smallL.take k ++ [(Dv .mul (px squareL k) 4476578029606273024, Dv .mul (py squareL k) 4476578029606273024)] ∧ (smallL.take k).length = k := by
  rcases (show k = 0 ∨ k = 1 ∨ k = 2 ∨ k = 3 by omega) with rfl | rfl | rfl | rfl
  all_goals decide +kernel
theorem own_form4 {base : Nat} {W : World} {v : Value} (h : Own base W v (smallL.take 4)) : ∃ g cap, v = .slice (some ⟨g, 0, none⟩) 4 cap := by
  rcases h with ⟨_, h⟩ | ⟨g, cap, h, _⟩
  · cases h
  · exact ⟨g, cap, h⟩
def PL (b : Nat) (W : World) (x : Value) : Prop := ∃ g, x = .pointer (some ⟨g, 0, none⟩) ∧ b ≤ g ∧ ∃ a c d, W.cell? ⟨g, 0, none⟩ = some a ∧ W.cell? ⟨g, 1, none⟩ = some c ∧ W.cell? ⟨g, 2, none⟩ = some d
theorem PL.bel {b : Nat} {W W' : World} {x : Value} (h : PL b W x) (g : Bel W W') : PL b W' x := by
  obtain ⟨p, e, h1, a, c, d, h2, h3, h4⟩ := h
  exact ⟨p, e, h1, a, c, d, keep g h2, keep g h3, keep g h4⟩
theorem pl_new {b : Nat} {W : World} {x y z : Value} {t : TypeId} (h : b ≤ W.heap.size) : PL b (W.alloc (.cells #[x, y, z] t)) (.pointer (some ⟨W.heap.size, 0, none⟩)) :=
  ⟨_, rfl, h, x, y, z, by rw [World.cell?_alloc_new]; rfl, by rw [World.cell?_alloc_new]; rfl, by rw [World.cell?_alloc_new]; rfl⟩
theorem any_zero (W : World) : AnyS W (.slice none 0 0) 0 (px []) (py []) := ⟨none, 0, rfl, Nat.le_refl _, Nat.zero_le _, by omega, fun i hi => by omega, .inl rfl⟩
theorem y_zero : shE 0 0 (px []) (py []) 0 = 70 := by decide +kernel
theorem y_q : shE 3 4607182418800017408 (px squareL) (py squareL) 4 = 6 := by decide +kernel
theorem y_c : shE 1 0 (px circleL) (py circleL) 1 = 5 := by decide +kernel
theorem y_two : shE 1 4613937818241073152 (px twoL) (py twoL) 2 = 6 := by decide +kernel
theorem y_small : shE 3 0 (px smallL) (py smallL) 4 = 0 := by decide +kernel
theorem y_put : shE 3 0 (fun i => toX 4742290407621132288 4607182418800017408 0 (px smallL i) (py smallL i)) (fun i => toY 0 4607182418800017408 0 (px smallL i) (py smallL i)) 4 = 60 := by decide +kernel
theorem y_in : inB 4742290407621132288 0 = true := by decide +kernel
theorem y_chk : chk (dtK 4607182418800017408 0 4607182418800017408 0) = true := by decide +kernel
theorem y_rc : reaK 2 4607182418800017408 (px capsuleL) (py capsuleL) 2 0 0 = 4617315517961601024 := by decide +kernel
theorem y_re : aE 2 4607182418800017408 (px capsuleL) (py capsuleL) 2 0 0 = 0 := by decide +kernel
theorem y_sc : reaK 3 0 (px squareL) (py squareL) 4 0 0 = Sq 4620693217682128896 := by decide +kernel
theorem y_se : aE 3 0 (px squareL) (py squareL) 4 0 0 = 0 := by decide +kernel
theorem y_s8 : eqK .f64 (Sq 4620693217682128896) (Sq 4620693217682128896) = true := by decide +kernel
theorem y_fx : farX 1 4613937818241073152 (px circleL) (py circleL) 1 0 0 = 4607182418800017408 := by decide +kernel
theorem y_fy : farY 1 4613937818241073152 (px circleL) (py circleL) 1 0 0 = 4611686018427387904 := by decide +kernel
theorem y_fe : aE 1 4613937818241073152 (px circleL) (py circleL) 1 0 0 = 0 := by decide +kernel
theorem sqrt8 (w : World) : Calls Try.prog 22 #[.float .f64 4620693217682128896] w fun e w' => e = .returned (.float .f64 (Sq 4620693217682128896)) ∧ Bel w w' :=
  (sqrt_any _ w).mono fun e w' ⟨r, n, hr, he, hw⟩ => ⟨by rw [he, sqR_is hr (by decide +kernel)], hw ▸ bl_drewN (bl_refl w) n⟩

end Go.Proofs.Ytnbkjkbgfcpcfaa
