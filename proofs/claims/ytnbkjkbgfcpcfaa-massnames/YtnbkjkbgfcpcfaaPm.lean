/-
  What each function of package poly answers, and what the reference of its chapter answers: one contract a function, for every float: the answer stands in the relation of its formula to what was given; of the memory that was there nothing has turned.
-/
import Derived.Test.YtnbkjkbgfcpcfaaVec
import Derived.Test.YtnbkjkbgfcpcfaaPl
import Derived.Below
import Derived.OwnWalk
import Derived.WalkKit
import Derived.WalkLawsBesides
import Derived.WalkSpells
import Derived.ProofKit
import Derived.OpenShut
import Derived.Deep.RegionHeld3
namespace Go.Proofs.Ytnbkjkbgfcpcfaa
open Go.ChangeShapes Go.WideShapes Go.ChangeAt Go.RowKit
set_option linter.unusedVariables false
set_option linter.unusedSimpArgs false


theorem Own.get {base : Nat} {w : World} {v : Value} {L : List Pt} (h : Own base w v L) (hl : 0 < L.length) : ∃ g c, v = .slice (some ⟨g, 0, none⟩) L.length c ∧ base ≤ g ∧ L.length ≤ c ∧ c ≤ maxLen ∧ Sl w g 0 L.length (px L) (py L) ∧ ∀ o, w.frozen? ⟨g, o, none⟩ = false := by
  rcases h with ⟨_, h⟩ | ⟨g, c, h1, h2, h3, h4, h5, _, h7⟩
  · rw [h] at hl; cases hl
  · exact ⟨g, c, h1, h2, h3, h4, h5, h7⟩
def sortS (L : List Pt) : List Pt := insOut 0 (L.length - 1) L
def inOrd (L : List Pt) : List Pt := dd (sortS L) L.length
theorem sort_len (L : List Pt) : (sortS L).length = L.length := insOut_len _ _ _
theorem inOrd_mem {L : List Pt} (h : 0 < L.length) {p : Pt} (hp : p ∈ inOrd L) : p ∈ L := insOut_mem 0 _ L (by omega) p (dd_mem _ (Nat.le_of_eq (insOut_len _ _ _).symm) p hp)
theorem inOrd_len (L : List Pt) : (inOrd L).length ≤ L.length := dd_len _ _
set_option maxRecDepth 100000 in
set_option maxHeartbeats 1000000 in
theorem inOrder_small (b off n cap : Nat) (L : List Pt) (w : World) (hl : L.length = n) (hs : Sl w b off n (px L) (py L)) (hN : Nums L) (hp : 0 < n) (hn : n < 20) (hcap : n ≤ cap) :
    Calls Try.prog 35 #[.slice (some ⟨b, off, none⟩) n cap] w fun e w' => ∃ g c, e = .returned (.slice (some ⟨g, 0, none⟩) (inOrd L).length c) ∧ w.heap.size ≤ g ∧ (inOrd L).length ≤ c ∧ Bel w w' ∧ Sl w' g 0 (inOrd L).length (px (inOrd L)) (py (inOrd L)) := by
  subst hl
  have hc := clone_d b off L.length cap L w rfl hs hp (by omega)
  go_enter Try.func35, Try.ntmps35
  go_wp2_with (first | (go_at_call 81; refine hc.mono ?_; rintro e w_1 ⟨v, rfl, hO, hB⟩; obtain ⟨g, c, rfl, hg, hgc, _, hS, _⟩ := hO.get (by omega)) | (go_at_call 82; refine (sort_small g 0 L.length c L w_1 rfl hS hN (by omega) hgc w hg hB).mono ?_; rintro e w_2 ⟨rfl, hm2, hS2⟩) | (go_at_call 85; refine (compact_d g 0 L.length c (sortS L) w_2 (sort_len L) hS2 (by omega) (by omega) hgc w hg (hm2.bel w hB hg)).mono ?_; rintro e w_3 ⟨rfl, hm3, hS3⟩))
  go_ret
  exact ⟨g, c, rfl, hg, Nat.le_trans (inOrd_len L) hgc, hm3.bel w (hm2.bel w hB hg) hg, hS3⟩
theorem run_zeros (w : World) (ty n : Nat) (h0 : 0 < n) (hn : n ≤ 1000) :
    (Builtin.append_ #[22, 3] ty #[.slice none 0 0, .int .i64 n]).run Try.prog w = .ok (.slice (some ⟨w.heap.size, 0, none⟩) n (grownCap w n 0 36)) (w.drew.alloc (.cells (Builtin.zeroCells (.agg #[.float .f64 0, .float .f64 0] : Value).cells n ++ Builtin.zeroCells (.agg #[.float .f64 0, .float .f64 0] : Value).cells (grownCap w n 0 36 - n)) 36)) := by
  obtain ⟨i0, hi, hz0, hz1, hz2⟩ := info_parts info_vec
  have hn0 : n ≠ 0 := by omega
  have hwr : IntKind.i64.wrap (n : Int) = (n : Int) := by rw [IntKind.wrap_i64]; omega
  have h48 : ¬ (281474976710656 < Builtin.nextslicecap n 0 * 16) := by rw [nextslicecap_zero h0]; omega
  have h47 : ¬ (281474976710656 < (n : Int) * 16) := by omega
  have h63 : ¬ (9223372036854775807 < (n : Int)) := by omega
  have hng : ¬ (n : Int) < 0 := by omega
  have hn2 : ¬ n * 2 = 0 := by omega
  simp [hng, hn2, Builtin.append_, run_underlying Try.underlying22, run_underlying Try.underlying3, sizeOf, typeInfo, zeroValue, hi, hz0, hz1, hz2, hn0, hwr, asInt, asIntOf, h48, h47, h63, Question.forced, run_firstCells_none, newRow, grownCap]
theorem wpList_run2 {w : World} {v u v' : Value} {w' : World} {ops : Array Oper} {rest : List Oper} {o : Oper} {a : Act} {Q : Exit → Act → World → Prop} (hgd : o.guard = none) (s x : Operand) (t1 t2 : TypeId)
    (ho : o.op = .call { callee := .builtin .append, args := #[s, x], argTypes := #[t1, t2] }) (hv : a.eval s = v) (hx : a.eval x = u) (hrun : ∀ ty, (Builtin.append_ #[t1, t2] ty #[v, u]).run Try.prog w = .ok v' w')
    (hK : wpList Try.prog ops Q rest (a.put o.dst v') w') : wpList Try.prog ops Q (o :: rest) a w := by
  refine wpList_plain hgd fun K hK' => ?_
  unfold Oper.wp
  simp [execOp, ho, resolve, invoke, builtin, hv, hx, hrun, Result.andThen]
  exact hK' _ _ hK
theorem grow_d (n : Nat) (w : World) (h0 : 0 < n) (hn : n ≤ 1000) : Calls Try.prog 87 #[.slice none 0 0, .int .i64 n] w fun e w' => ∃ v, e = .returned v ∧ Own w.heap.size w' v [] ∧ Bel w w' := by
  have hr := fun W ty => run_zeros W ty n h0 hn
  have n1 : ¬ (n : Int) < 0 := by omega
  have n2 : (0 : Int) < (n : Int) := by omega
  have wn : IntKind.wrap .i64 (n : Int) = (n : Int) := by rw [IntKind.wrap_i64]; omega
  clear hr
  go_enter Try.func87, Try.ntmps87
  go_wp2_with (first | (at_builtin; refine wpList_run2 rfl _ _ _ _ rfl rfl rfl (fun ty => run_zeros _ ty n h0 hn) ?_) | go_in)
  go_ret
  have hge := grownCap_ge w n 0 36
  have hcm := grownCap_le_maxLen w n 0 36 (by unfold maxLen; omega)
  refine ⟨_, rfl, Own.bel ?_ (bl_drew (bl_refl _)), bl_drew (bl_alloc (bl_refl w) _ _)⟩
  refine own_new (L := []) (Nat.le_refl _) (Nat.zero_le _) hcm ?_ (fun j hj => by simp at hj)
  rw [Array.size_append, size_zeroCells, size_zeroCells]
  show n * 2 + (grownCap w n 0 36 - n) * 2 = _
  omega
set_option maxHeartbeats 1000000 in
theorem concat_d (q a1 o1 c1 a2 o2 c2 : Nat) (A B : List Pt) (w : World) (h0 : w.cell? ⟨q, 0, none⟩ = some (.slice (some ⟨a1, o1, none⟩) A.length c1)) (h1 : w.cell? ⟨q, 1, none⟩ = some (.slice (some ⟨a2, o2, none⟩) B.length c2))
    (sA : Sl w a1 o1 A.length (px A) (py A)) (sB : Sl w a2 o2 B.length (px B) (py B)) (pA : 0 < A.length) (pB : 0 < B.length) (hn : A.length + B.length ≤ 1000) : Calls Try.prog 38 #[.slice (some ⟨q, 0, none⟩) 2 2] w fun e w' => ∃ v, e = .returned v ∧ Own w.heap.size w' v (A ++ B) ∧ Bel w w' := by
  have w1 : IntKind.wrap .i64 ((A.length : Int) + (B.length : Int)) = (A.length : Int) + (B.length : Int) := by rw [IntKind.wrap_i64]; omega
  have w2 : IntKind.wrap .i64 (A.length : Int) = (A.length : Int) := by rw [IntKind.wrap_i64]; omega
  have n1 : ¬ (A.length : Int) < 0 := by omega
  have n2 : ¬ (A.length : Int) + (B.length : Int) < 0 := by omega
  have hg : Calls Try.prog 87 #[.slice none 0 0, .int .i64 ((A.length : Int) + (B.length : Int))] w fun e w' => ∃ v, e = .returned v ∧ Own w.heap.size w' v [] ∧ Bel w w' := by
    have h := grow_d (A.length + B.length) w (by omega) hn
    rwa [Int.natCast_add] at h
  go_enter Try.func38, Try.ntmps38
  go_wp2
  refine wp_loop_rounds 3 ?_
  rw [rounds_succ]
  go_wp2
  rw [rounds_succ]
  go_wp2
  rw [rounds_succ]
  go_wp2_with (first | (go_at_call 87; refine hg.mono ?_; rintro e w_1 ⟨v, rfl, hO, hB⟩; have g0 := keep hB h0; have g1 := keep hB h1))
  refine wp_loop_rounds 3 ?_
  rw [rounds_succ]
  go_wp2_with (first | (at_builtin; refine wpList_app rfl _ _ rfl rfl a1 o1 c1 rfl hO (sA.bel hB) pA hB.size (by simp; omega) ?_; intro v1 w_2 hO1 hb1; replace hb1 := hb1 w hB (Nat.le_refl _); have k0 := keep hb1 h0; have k1 := keep hb1 h1) | go_in)
  rw [rounds_succ]
  go_wp2_with (first | (at_builtin; refine wpList_app rfl _ _ rfl rfl a2 o2 c2 rfl hO1 (sB.bel hb1) pB hb1.size (by simp; omega) ?_; intro v2 w_3 hO2 hb2; replace hb2 := hb2 w hb1 (Nat.le_refl _); have m0 := keep hb2 h0; have m1 := keep hb2 h1) | go_in)
  rw [rounds_succ]
  go_wp2
  go_ret
  exact ⟨_, rfl, by simpa using hO2, hb2⟩
theorem concat_l (q a1 o1 l1 c1 a2 o2 l2 c2 : Nat) (A B : List Pt) (w : World) (eA : A.length = l1) (eB : B.length = l2) (h0 : w.cell? ⟨q, 0, none⟩ = some (.slice (some ⟨a1, o1, none⟩) l1 c1)) (h1 : w.cell? ⟨q, 1, none⟩ = some (.slice (some ⟨a2, o2, none⟩) l2 c2))
    (sA : Sl w a1 o1 l1 (px A) (py A)) (sB : Sl w a2 o2 l2 (px B) (py B)) (pA : 0 < l1) (pB : 0 < l2) (hn : l1 + l2 ≤ 1000) : Calls Try.prog 38 #[.slice (some ⟨q, 0, none⟩) 2 2] w fun e w' => ∃ v, e = .returned v ∧ Own w.heap.size w' v (A ++ B) ∧ Bel w w' := by
  subst eA
  subst eB
  exact concat_d q a1 o1 c1 a2 o2 c2 A B w h0 h1 sA sB pA pB hn
theorem px_rev {L : List Pt} {i : Nat} (h : i < L.length) : px L.reverse i = px L (L.length - 1 - i) ∧ py L.reverse i = py L (L.length - 1 - i) := by
  have e : pt L.reverse i = pt L (L.length - 1 - i) := by
    unfold pt
    rw [List.getD_eq_getElem?_getD, List.getD_eq_getElem?_getD, List.getElem?_reverse h]
  unfold px py
  rw [e]
  exact ⟨rfl, rfl⟩
theorem px_drop {L : List Pt} {i : Nat} (h : i < L.length - 1) : px L.dropLast i = px L i ∧ py L.dropLast i = py L i := by
  have e : pt L.dropLast i = pt L i := by
    unfold pt
    rw [List.getD_eq_getElem?_getD, List.getD_eq_getElem?_getD, List.getElem?_dropLast, if_pos h]
  unfold px py
  rw [e]
  exact ⟨rfl, rfl⟩
theorem rowR_two : ∀ (L r : List Pt), 2 ≤ r.length + L.length → (1 ≤ r.length ∨ L = [] ∨ 2 ≤ L.length) → (L = [] → 2 ≤ r.length) → 2 ≤ (rowR r L).length := by
  intro L
  induction L with
  | nil => intro r h _ h2; exact h2 rfl
  | cons p t ih =>
    intro r h h1 _
    have hp : r = [] ∨ 1 ≤ (popR p r).length := by
      match r with
      | [] => exact .inl rfl
      | [b] => exact .inr (Nat.le_refl _)
      | b :: a :: t' =>
        right
        unfold popR
        split
        · simp
        · have := popR_pos p a t'
          omega
    refine ih _ ?_ (.inl (by simp)) (fun ht => ?_)
    · simp only [List.length_cons] at h ⊢
      rcases hp with hp | hp
      · subst hp; simp at h ⊢; omega
      · omega
    · subst ht
      rcases hp with hp | hp
      · subst hp; simp at h
      · simp; omega
where
  popR_pos (p a : Pt) : ∀ t : List Pt, 1 ≤ (popR p (a :: t)).length := by
    intro t
    induction t generalizing a with
    | nil => exact Nat.le_refl _
    | cons b t ih =>
      unfold popR
      split
      · simp
      · exact ih b
/-- the hull of points, in order -/
def hullD (D : List Pt) : List Pt := (rowR [] D).reverse.dropLast ++ (rowR [] D.reverse).reverse.dropLast

end Go.Proofs.Ytnbkjkbgfcpcfaa
