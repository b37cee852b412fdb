/-
  What each function of package poly answers, and what the reference of its chapter answers: one contract a function, for every float: the answer stands in the relation of its formula to what was given; of the memory that was there nothing has turned.
-/
import Derived.Test.YtnbkjkbgfcpcfaaVec
import Derived.Test.YtnbkjkbgfcpcfaaPk
import Derived.Below
import Derived.OwnWalk
import Derived.WalkMore
import Derived.WalkKit
import Derived.WalkLawsBesides
import Derived.WalkSpells
import Derived.ProofKit
import Derived.OpenShut
import Derived.Deep.RegionHeld3
namespace Go.Proofs.Ytnbkjkbgfcpcfaa
open Go.ChangeShapes Go.WideShapes Go.ChangeAt Go.RowKit
set_option linter.unusedVariables false
set_option linter.unusedSimpArgs false


theorem wpList_run {w : World} {v u v' : Value} {w' : World} {ops : Array Oper} {rest : List Oper} {o : Oper} {a : Act} {Q : Exit → Act → World → Prop} (hgd : o.guard = none) (s x : Operand)
    (ho : o.op = .call { callee := .builtin .append, args := #[s, x], argTypes := #[22, 22] }) (hv : a.eval s = v) (hx : a.eval x = u) (hrun : ∀ ty, (Builtin.append_ #[22, 22] ty #[v, u]).run Try.prog w = .ok v' w')
    (hK : wpList Try.prog ops Q rest (a.put o.dst v') w') : wpList Try.prog ops Q (o :: rest) a w := by
  refine wpList_plain hgd fun K hK' => ?_
  unfold Oper.wp
  simp [execOp, ho, resolve, invoke, builtin, hv, hx, hrun, Result.andThen]
  exact hK' _ _ hK
theorem one_sl (W : World) (p : Pt) : Sl (W.alloc (.cells #[.float .f64 p.1, .float .f64 p.2] 36)) W.heap.size 0 1 (px [p]) (py [p]) := by
  intro i hi
  rw [show i = 0 by omega]
  exact cell_own rfl _ _ _
/-- points of a size -/
def GdL (L : List Pt) : Prop := ∀ p, p ∈ L → Bd 40 p.1 ∧ Bd 40 p.2
theorem GdL.gd {L : List Pt} (h : GdL L) : Gd (px L) (py L) L.length := fun i hi => h _ (pt_mem hi)
theorem rev_last (p : Pt) (r : List Pt) : pt (p :: r).reverse r.length = p := by
  rw [List.reverse_cons]
  have h := pt_end r.reverse p
  rwa [List.length_reverse] at h
theorem rev_prev (p q : Pt) (r : List Pt) : pt (p :: q :: r).reverse r.length = q := by
  rw [List.reverse_cons, pt_app1 _ _ (by simp), rev_last]
theorem lean_rev (a b p : Pt) (t : List Pt) : crK (wX (px (b :: a :: t).reverse) (t.length + 2) t.length) (wX (py (b :: a :: t).reverse) (t.length + 2) t.length) (Dv .sub p.1 (px (b :: a :: t).reverse t.length)) (Dv .sub p.2 (py (b :: a :: t).reverse t.length)) = leanP a b p := by
  unfold wX leanP px py
  rw [Nat.mod_eq_of_lt (by omega), rev_prev]
  have h := rev_last b (a :: t)
  rw [List.length_cons] at h
  rw [h]
theorem push_rel {g off N m : Nat} {w Wq : World} {D : List Pt} {p : Pt} (hD : D.length = m) (hm : m < N) (hM : Mo g w Wq) (hS : Sl Wq g off m (px D) (py D)) (hgq : g < Wq.heap.size) (OUT : ∀ o, (o < off ∨ off + N * 2 ≤ o) → Wq.cell? ⟨g, o, none⟩ = w.cell? ⟨g, o, none⟩) (EX : ∀ j, j < N * 2 → (Wq.cell? ⟨g, off + j, none⟩).isSome = true) :
    Mo g w (((Wq.alloc (.cells #[.float .f64 p.1, .float .f64 p.2] 36)).setCell ⟨g, off + m * 2, none⟩ (.float .f64 p.1)).setCell ⟨g, off + m * 2 + 1, none⟩ (.float .f64 p.2)) ∧
    Sl (((Wq.alloc (.cells #[.float .f64 p.1, .float .f64 p.2] 36)).setCell ⟨g, off + m * 2, none⟩ (.float .f64 p.1)).setCell ⟨g, off + m * 2 + 1, none⟩ (.float .f64 p.2)) g off (m + 1) (px (D ++ [p])) (py (D ++ [p])) ∧
    (∀ o, (o < off ∨ off + N * 2 ≤ o) → (((Wq.alloc (.cells #[.float .f64 p.1, .float .f64 p.2] 36)).setCell ⟨g, off + m * 2, none⟩ (.float .f64 p.1)).setCell ⟨g, off + m * 2 + 1, none⟩ (.float .f64 p.2)).cell? ⟨g, o, none⟩ = w.cell? ⟨g, o, none⟩) ∧
    ∀ j, j < N * 2 → ((((Wq.alloc (.cells #[.float .f64 p.1, .float .f64 p.2] 36)).setCell ⟨g, off + m * 2, none⟩ (.float .f64 p.1)).setCell ⟨g, off + m * 2 + 1, none⟩ (.float .f64 p.2)).cell? ⟨g, off + j, none⟩).isSome = true := by
  have B := bl_alloc (bl_refl Wq) #[.float .f64 p.1, .float .f64 p.2] 36
  refine ⟨((hM.on B).set).set, Sl.put hD (hS.bel B) (some_bel B (EX _ (by omega))) (by rw [Nat.add_assoc]; exact some_bel B (EX _ (by omega))), fun o ho => ?_, fun j hj => some_set (some_set (some_bel B (EX j hj)))⟩
  rw [far_off (by omega), far_off (by omega)]
  exact ((bcell B).1 g o hgq).trans (OUT o ho)
theorem push_rel2 {g off N m : Nat} {w Wq : World} {D : List Pt} {p : Pt} (hD : D.length = m) (hm : m < N) (hM : Mo g w Wq) (hS : Sl Wq g off m (px D) (py D)) (hgq : g < Wq.heap.size) (OUT : ∀ o, (o < off ∨ off + N * 2 ≤ o) → Wq.cell? ⟨g, o, none⟩ = w.cell? ⟨g, o, none⟩) (EX : ∀ j, j < N * 2 → (Wq.cell? ⟨g, off + j, none⟩).isSome = true) :
    Mo g w (((Wq.setCell ⟨g, off + m * 2, none⟩ (.float .f64 p.1)).setCell ⟨g, off + m * 2 + 1, none⟩ (.float .f64 p.2)).alloc (.cells #[.float .f64 p.1, .float .f64 p.2] 36)) ∧
    Sl (((Wq.setCell ⟨g, off + m * 2, none⟩ (.float .f64 p.1)).setCell ⟨g, off + m * 2 + 1, none⟩ (.float .f64 p.2)).alloc (.cells #[.float .f64 p.1, .float .f64 p.2] 36)) g off (m + 1) (px (D ++ [p])) (py (D ++ [p])) ∧
    (∀ o, (o < off ∨ off + N * 2 ≤ o) → (((Wq.setCell ⟨g, off + m * 2, none⟩ (.float .f64 p.1)).setCell ⟨g, off + m * 2 + 1, none⟩ (.float .f64 p.2)).alloc (.cells #[.float .f64 p.1, .float .f64 p.2] 36)).cell? ⟨g, o, none⟩ = w.cell? ⟨g, o, none⟩) ∧
    ∀ j, j < N * 2 → ((((Wq.setCell ⟨g, off + m * 2, none⟩ (.float .f64 p.1)).setCell ⟨g, off + m * 2 + 1, none⟩ (.float .f64 p.2)).alloc (.cells #[.float .f64 p.1, .float .f64 p.2] 36)).cell? ⟨g, off + j, none⟩).isSome = true := by
  have B := bl_alloc (bl_refl ((Wq.setCell ⟨g, off + m * 2, none⟩ (.float .f64 p.1)).setCell ⟨g, off + m * 2 + 1, none⟩ (.float .f64 p.2))) #[.float .f64 p.1, .float .f64 p.2] 36
  refine ⟨((hM.set).set).on B, (Sl.put hD hS (EX _ (by omega)) (by rw [Nat.add_assoc]; exact EX _ (by omega))).bel B, fun o ho => ?_, fun j hj => some_bel B (some_set (some_set (EX j hj)))⟩
  rw [(bcell B).1 g o (by simpa [World.setCell] using hgq), far_off (by omega), far_off (by omega)]
  exact OUT o ho
set_option maxHeartbeats 4000000 in
theorem row_d (g off N b o2 n cap : Nat) (L : List Pt) (w : World) (hl : L.length = n) (hs : Sl w b o2 n (px L) (py L)) (hG : GdL L) (hgb : b ≠ g) (hn : n ≤ N) (hN : N ≤ 1000) (hcap : n ≤ cap) (EX : ∀ j, j < N * 2 → (w.cell? ⟨g, off + j, none⟩).isSome = true) (W0 : World) (fb : W0.heap.size ≤ g) (B0 : Bel W0 w) :
    Calls Try.prog 36 #[.slice (some ⟨g, off, none⟩) 0 N, .slice (some ⟨b, o2, none⟩) n cap] w fun e w' => e = .returned (.slice (some ⟨g, off, none⟩) (rowR [] L).length N) ∧ Mo g w w' ∧ Sl w' g off (rowR [] L).length (px (rowR [] L).reverse) (py (rowR [] L).reverse) ∧ (rowR [] L).length ≤ n ∧ ∀ o, (o < off ∨ off + N * 2 ≤ o) → w'.cell? ⟨g, o, none⟩ = w.cell? ⟨g, o, none⟩ := by
  obtain ⟨R, hRR⟩ : ∃ R, rowR [] L = R := ⟨_, rfl⟩
  rw [hRR]
  have c2 := cmp_gt .f64
  have hgw : 0 < N → g < w.heap.size := fun h => by
    obtain ⟨u, hu⟩ := Option.isSome_iff_exists.1 (EX 0 (by omega))
    exact World.block_lt_of_cell? _ _ hu
  go_enter Try.func36, Try.ntmps36
  go_wp2
  go_step3
  go_wp2
  go_step3
  go_wp2
  go_loopw [9, 0] (fun i' v' wr => ∃ (k : Nat) (r : List Pt), k ≤ n ∧ rowR r (L.drop k) = R ∧ r.length ≤ k ∧ (∀ p, p ∈ r → p ∈ L) ∧ i' = .int .i64 k ∧ v' = .slice (some ⟨g, off, none⟩) r.length N ∧ Mo g w wr ∧ Sl wr g off r.length (px r.reverse) (py r.reverse) ∧ (∀ o, (o < off ∨ off + N * 2 ≤ o) → wr.cell? ⟨g, o, none⟩ = w.cell? ⟨g, o, none⟩) ∧ ∀ j, j < N * 2 → (wr.cell? ⟨g, off + j, none⟩).isSome = true) (fun i' _ _ => n - (intOf i').toNat)
  case atStart => exact ⟨0, [], by omega, by simpa using hRR, Nat.le_refl _, (fun p hp => by cases hp), rfl, rfl, Mo.refl _ _, (fun i hi => by simp at hi), fun o _ => rfl, EX⟩
  case round =>
    clear EX
    obtain ⟨k, r, hk, hrow, hrk, hmem, rfl, rfl, hM, hS, OUT, EX⟩ := hrel
    by_cases hlt : k < n
    · generalize wr = wo at *
      have k1 : (k : Int) < (n : Int) := by omega
      have wk : IntKind.wrap .i64 ((k : Int) + 1) = (k : Int) + 1 := by rw [IntKind.wrap_i64]; omega
      obtain ⟨p, ep⟩ : ∃ p, pt L k = p := ⟨_, rfl⟩
      obtain ⟨x0, x1⟩ := (hM.sl hs hgb) k hlt
      have lq := World.block_lt_of_cell? _ _ x0
      simp only at lq
      have ex : px L k = p.1 := by unfold px; rw [ep]
      have ey : py L k = p.2 := by unfold py; rw [ep]
      rw [ex] at x0
      rw [ey] at x1
      have hdrop : L.drop k = p :: L.drop (k + 1) := by
        rw [List.drop_eq_getElem_cons (by omega)]
        congr 1
        rw [← ep]; unfold pt; rw [List.getD_eq_getElem?_getD, List.getElem?_eq_getElem (by omega)]; rfl
      rw [hdrop] at hrow
      have hpL : p ∈ L := by rw [← ep]; exact pt_mem (by omega)
      obtain ⟨gp1, gp2⟩ := hG p hpL
      obtain ⟨T, hT⟩ : ∃ T, popR p r = T := ⟨_, rfl⟩
      have hrow2 : rowR (p :: T) (L.drop (k + 1)) = R := by rw [← hT]; exact hrow
      have hFZ : ∀ {W : World}, Mo g w W → ∀ o, W.frozen? ⟨g, o, none⟩ = false := fun hW o => (hW.fz _).trans ((B0.2 _).trans (fresh_frozen fb))
      obtain ⟨A, hA⟩ : ∃ A, (wo.alloc (.cells #[.float .f64 p.1, .float .f64 p.2] 36)) = A := ⟨_, rfl⟩
      obtain ⟨P0, P1⟩ : A.cell? ⟨wo.heap.size, 0, none⟩ = some (.float .f64 p.1) ∧ A.cell? ⟨wo.heap.size, 1, none⟩ = some (.float .f64 p.2) := by rw [← hA]; exact cell_own rfl _ _ _
      have BA : Bel wo A := by rw [← hA]; exact bl_alloc (bl_refl wo) _ _
      have hgr : g < A.heap.size := Nat.lt_of_lt_of_le (hgw (by omega)) (Nat.le_trans hM.size BA.size)
      have hag : wo.heap.size ≠ g := by have := Nat.lt_of_lt_of_le (hgw (by omega)) hM.size; omega
      go_wp2
      go_loopw [0] (fun v' wr => ∃ r2 : List Pt, popR p r2 = T ∧ r2.length ≤ k ∧ (∀ q, q ∈ r2 → q ∈ L) ∧ v' = .slice (some ⟨g, off, none⟩) r2.length N ∧ Mo g w wr ∧ Sl wr g off r2.length (px r2.reverse) (py r2.reverse) ∧ (∀ o, (o < off ∨ off + N * 2 ≤ o) → wr.cell? ⟨g, o, none⟩ = w.cell? ⟨g, o, none⟩) ∧ (∀ j, j < N * 2 → (wr.cell? ⟨g, off + j, none⟩).isSome = true) ∧ wr.cell? ⟨wo.heap.size, 0, none⟩ = some (.float .f64 p.1) ∧ wr.cell? ⟨wo.heap.size, 1, none⟩ = some (.float .f64 p.2)) (fun v' _ => (match v' with | .slice _ l _ => l | _ => 0))
      case atStart => exact ⟨r, hT, hrk, hmem, rfl, hM.on BA, hS.bel BA, fun o ho => ((bcell BA).1 g o (Nat.lt_of_lt_of_le (hgw (by omega)) hM.size)).trans (OUT o ho), fun j hj => some_bel BA (EX j hj), P0, P1⟩
      case round =>
        clear hM hS OUT EX hT hrk hmem P0 P1
        obtain ⟨r2, hT, hrk, hmem, rfl, hM, hS, OUT, EX, P0, P1⟩ := hrel
        have hgq : g < wr.heap.size := Nat.lt_of_lt_of_le (hgw (by omega)) hM.size
        have FQ := hFZ hM
        match r2, hT, hrk, hmem, hS with
        | [], hT, hrk, hmem, hS =>
          have l1 : ¬ (2 : Int) ≤ 0 := by decide
          have hB2 := bl_alloc (bl_refl wr) #[.float .f64 p.1, .float .f64 p.2] 36
          obtain ⟨v0, hv0⟩ := Option.isSome_iff_exists.1 (some_bel hB2 (EX 0 (by omega)))
          obtain ⟨v1, hv1⟩ := Option.isSome_iff_exists.1 (some_bel hB2 (EX (0 + 1) (by omega)))
          simp only [Nat.add_zero, Nat.zero_add] at hv0 hv1
          have FZ : ∀ o, (wr.alloc (.cells #[.float .f64 p.1, .float .f64 p.2] 36)).frozen? ⟨g, o, none⟩ = false := fun o => (hB2.2 _).trans (FQ o)
          have lz := World.block_lt_of_cell? _ _ hv0
          simp only at lz
          obtain ⟨u0, hu0⟩ := Option.isSome_iff_exists.1 (EX 0 (by omega))
          obtain ⟨u1, hu1⟩ := Option.isSome_iff_exists.1 (EX (0 + 1) (by omega))
          simp only [Nat.add_zero, Nat.zero_add] at hu0 hu1
          have hgn : wr.heap.size ≠ g := by omega
          have room : 0 + 1 ≤ N := by omega
          go_wp2
          have hpop : [] = T := by rw [← hT]; rfl
          obtain ⟨q1, q2, q3, q4⟩ := push_rel2 (p := p) (m := 0) (D := ([]).reverse) rfl (by omega) hM hS hgq OUT EX
          simp only [Nat.zero_mul, Nat.add_zero] at q1 q2 q3 q4
          have hlT : (p :: T).length = 0 + 1 := by rw [← hpop]; rfl
          have hrT : (p :: T).reverse = ([]).reverse ++ [p] := by rw [List.reverse_cons, ← hpop]
          refine ⟨⟨k + 1, p :: T, by omega, hrow2, by rw [hlT]; omega, fun q hq => ?_, by go_num, by rw [hlT], q1, by rw [hlT, hrT]; exact q2, q3, q4⟩, by simp [intOf]; omega⟩
          rcases List.mem_cons.1 hq with h | h
          · rw [h]; exact hpL
          · rw [← hpop] at h; exact hmem q h
        | [b1], hT, hrk, hmem, hS =>
          have hrk' : 1 ≤ k := by simpa using hrk
          have l1 : ¬ (2 : Int) ≤ 1 := by decide
          have hB2 := bl_alloc (bl_refl wr) #[.float .f64 p.1, .float .f64 p.2] 36
          obtain ⟨v0, hv0⟩ := Option.isSome_iff_exists.1 (some_bel hB2 (EX 2 (by omega)))
          obtain ⟨v1, hv1⟩ := Option.isSome_iff_exists.1 (some_bel hB2 (EX (2 + 1) (by omega)))
          rw [← Nat.add_assoc] at hv1
          have FZ : ∀ o, (wr.alloc (.cells #[.float .f64 p.1, .float .f64 p.2] 36)).frozen? ⟨g, o, none⟩ = false := fun o => (hB2.2 _).trans (FQ o)
          have lz := World.block_lt_of_cell? _ _ hv0
          simp only at lz
          obtain ⟨u0, hu0⟩ := Option.isSome_iff_exists.1 (EX 2 (by omega))
          obtain ⟨u1, hu1⟩ := Option.isSome_iff_exists.1 (EX (2 + 1) (by omega))
          rw [← Nat.add_assoc] at hu1
          have hgn : wr.heap.size ≠ g := by omega
          have room : 1 + 1 ≤ N := by omega
          go_wp2
          have hpop : [b1] = T := by rw [← hT]; rfl
          obtain ⟨q1, q2, q3, q4⟩ := push_rel2 (p := p) (m := 1) (D := ([b1]).reverse) rfl (by omega) hM hS hgq OUT EX
          simp only [Nat.one_mul] at q1 q2 q3 q4
          have hlT : (p :: T).length = 1 + 1 := by rw [← hpop]; rfl
          have hrT : (p :: T).reverse = ([b1]).reverse ++ [p] := by rw [List.reverse_cons, ← hpop]
          refine ⟨⟨k + 1, p :: T, by omega, hrow2, by rw [hlT]; omega, fun q hq => ?_, by go_num, by rw [hlT], q1, by rw [hlT, hrT]; exact q2, q3, q4⟩, by simp [intOf]; omega⟩
          rcases List.mem_cons.1 hq with h | h
          · rw [h]; exact hpL
          · rw [← hpop] at h; exact hmem q h
        | b1 :: a1 :: t1, hT, hrk, hmem, hS =>
          obtain ⟨m, hm⟩ : ∃ m, t1.length = m := ⟨_, rfl⟩
          have hl2 : (b1 :: a1 :: t1).length = m + 2 := by simp [hm]
          obtain ⟨D, hDh⟩ : ∃ D, Hid ((b1 :: a1 :: t1).reverse = D) := ⟨_, hide rfl⟩
          rw [hl2, unhide hDh] at hS
          rw [hl2] at hrk
          have hDl : D.length = m + 2 := by rw [← unhide hDh, List.length_reverse, hl2]
          simp only [List.length_cons, hm]
          have l1 : (2 : Int) ≤ (m : Int) + 1 + 1 := by omega
          have wl : IntKind.wrap .i64 ((m : Int) + 1 + 1 - 2) = (m : Int) := by rw [IntKind.wrap_i64]; omega
          haveI := belBy_some wr
          have y0 := belBy_cell P0
          have y1 := belBy_cell P1
          have gd : Gd (px D) (py D) (m + 2) := by
            have h := GdL.gd (L := (b1 :: a1 :: t1).reverse) (fun q hq => hG q (hmem q (List.mem_reverse.1 hq)))
            rwa [List.length_reverse, hl2, unhide hDh] at h
          obtain ⟨g1, g2⟩ := gd m (by omega)
          obtain ⟨g3, g4⟩ := wX_bd gd (i := m) (by omega)
          have eL := lean_rev a1 b1 p t1
          rw [hm, unhide hDh] at eL
          cases hc : ltK .f64 0 (leanP a1 b1 p)
          all_goals
            go_wp2
            refine wp_region_quiet_bel (by kernel_rfl) (by kernel_rfl) ?_
            repeat (go_big_quiet_step (first | (go_at_call 77; exact calls_bel (edgeOf_d g off (m + 2) N _ _ _ (hS.bel (BelBy.h _)) gd m (by omega) (by unfold maxLen; omega) (by omega))) | (go_at_call 79; exact calls_bel (leans_d _ _ _ _ _ _ _ g1 g2 g3 g4 gp1 gp2))))
          · refine wpQuiet_nil ?_
            rintro _ ⟨nq, rfl⟩
            have hpop : popR p (a1 :: t1) = T := by rw [← hT]; show _ = (if _ then _ else _); rw [hc]; rfl
            go_wp2_with (first | (go_at_call 39; refine (butLast_d _ _ _ _ _ (by omega) (by unfold maxLen; omega) (by omega)).mono ?_; rintro e w' ⟨rfl, rfl⟩))
            refine ⟨⟨a1 :: t1, hpop, by simp [hm]; omega, fun q hq => hmem q (List.mem_cons_of_mem _ hq), by simp [hm], hM.on nq.h, ?_, fun o ho => ((bcell nq.h).1 g o hgq).trans (OUT o ho), fun j hj => some_bel nq.h (EX j hj), keep nq.h P0, keep nq.h P1⟩, by simp⟩
            have hD2 : D = (a1 :: t1).reverse ++ [b1] := by rw [← unhide hDh, List.reverse_cons]
            have hl3 : (a1 :: t1).length = m + 1 := by simp [hm]
            rw [hl3]
            refine ((hS.bel nq.h).lt_ (m := m + 1) (by omega)).eq (fun i hi => ?_) (fun i hi => ?_)
            · rw [hD2]; exact px_app1 _ _ _ (by rw [List.length_reverse, hl3]; exact hi)
            · rw [hD2]; exact py_app1 _ _ _ (by rw [List.length_reverse, hl3]; exact hi)
          · refine wpQuiet_nil ?_
            rintro _ ⟨nq, rfl⟩
            have hpop : b1 :: a1 :: t1 = T := by rw [← hT]; show _ = (if _ then _ else _); rw [hc]; rfl
            have hB2 := bl_alloc nq.h #[.float .f64 p.1, .float .f64 p.2] 36
            have z0 := keep nq.h P0
            have z1 := keep nq.h P1
            obtain ⟨v0, hv0⟩ := Option.isSome_iff_exists.1 (some_bel hB2 (EX ((m + 1 + 1) * 2) (by omega)))
            obtain ⟨v1, hv1⟩ := Option.isSome_iff_exists.1 (some_bel hB2 (EX ((m + 1 + 1) * 2 + 1) (by omega)))
            rw [← Nat.add_assoc] at hv1
            have FZ : ∀ o, (nq.world.alloc (.cells #[.float .f64 p.1, .float .f64 p.2] 36)).frozen? ⟨g, o, none⟩ = false := fun o => (hB2.2 _).trans (FQ o)
            have lz := World.block_lt_of_cell? _ _ hv0
            simp only at lz
            have room : m + 1 + 1 + 1 ≤ N := by omega
            go_wp2
            obtain ⟨q1, q2, q3, q4⟩ := push_rel (p := p) hDl (by omega) (hM.on nq.h) (hS.bel nq.h) (Nat.lt_of_lt_of_le hgq nq.h.size) (fun o ho => ((bcell nq.h).1 g o hgq).trans (OUT o ho)) (fun j hj => some_bel nq.h (EX j hj))
            have hlT : (p :: T).length = m + 2 + 1 := by rw [← hpop]; simp [hm]
            have hrT : (p :: T).reverse = D ++ [p] := by rw [List.reverse_cons, ← hpop, unhide hDh]
            refine ⟨⟨k + 1, p :: T, by omega, hrow2, by rw [hlT]; omega, fun q hq => ?_, by go_num, by rw [hlT], q1, by rw [hlT, hrT]; exact q2, q3, q4⟩, by simp [intOf]; omega⟩
            rcases List.mem_cons.1 hq with h | h
            · rw [h]; exact hpL
            · rw [← hpop] at h; exact hmem q h
    · have hkn : k = n := by omega
      subst hkn
      have e : r = R := by rw [← hrow, ← hl, List.drop_length]; rfl
      subst e
      go_wp2
      (try rw [Exit.noGoto_ret])
      go_ret
      exact ⟨rfl, hM, hS, hrk, OUT⟩

end Go.Proofs.Ytnbkjkbgfcpcfaa
