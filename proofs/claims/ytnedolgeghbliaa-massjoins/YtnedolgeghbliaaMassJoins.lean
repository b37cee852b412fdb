/-
  'tumblelaw08.MassJoins' is true of all rows of masses.
-/
import Derived.Test.YtnedolgeghbliaaRows
import Derived.Test.YtnedolgeghbliaaMy
import Derived.WalkKit
import Derived.ProofKit
import Derived.OpenShut
import Derived.WalkLawsBesides
import Derived.WalkSpells
import Derived.Lib.SmallJoins
import Derived.Laws.Cover2
import Derived.Laws.AppendOwn
import Derived.Laws.OwnMore
import Derived.Laws.AppendOwnNone
import Derived.Deep.RegionHeld3
import Derived.Deep.RegionWith
import Derived.Deep.SlicePairs
import Derived.Deep.Strs
import Derived.SizedLaws
import Derived.Below
import Derived.Laws.StructEq
namespace Go.Proofs.Ytnedolgeghbliaa.massJoins
open Go.ChangeShapes Go.WideShapes Go.ChangeAt Go.RowKit Go.Joins
set_option linter.unusedVariables false
set_option linter.unusedSimpArgs false

theorem own : ownKnob Try.prog.godebug = none := by kernel_rfl
theorem laidOut : laidOutB Try.prog = true := by kernel_rfl
theorem wf_f64 {x : Nat} (h : (Lit.float .f64 x).wf = true) : okK .f64 x := by
  rw [okK64]; simpa [Lit.wf] using h
theorem trod_fl {H : Type} {enc : TypeId × Value → H} {P : Program} {w : World} {base fuel : Nat} {spare : Nat → Bool} {held : Bool} {t : TypeId} {cs : List Value} {x : DataW H × List MemPlace} {k : FloatKind} (ht : P.underlying t = some (.float k)) (h : DataW.trod enc P w base spare held fuel t cs = some x) : ∃ z, cs = [.float k z] ∧ x = (.lit (.float k z), []) ∧ (Lit.float k z).wf = true := by
  cases fuel with
  | zero => simp [DataW.trod] at h
  | succ n =>
    unfold DataW.trod at h
    rw [ht] at h
    split at h <;> simp_all

theorem cellsV : Try.prog.cellsOf 26 = 2 := by kernel_rfl
theorem cellsM : Try.prog.cellsOf 28 = 4 := by kernel_rfl
theorem cellsF : Try.prog.cellsOf 24 = 1 := by kernel_rfl
theorem same8 (a b c d a' b' c' d' : Nat) (w : World) (h1 : smK .f64 a a' = true) (h2 : smK .f64 b b' = true) (h3 : smK .f64 c c' = true) (h4 : smK .f64 d d' = true) : Calls Try.prog 13 #[.agg #[.float .f64 a, .float .f64 b, .float .f64 c, .float .f64 d], .agg #[.float .f64 a', .float .f64 b', .float .f64 c', .float .f64 d']] w fun e w' => e = .returned (.bool true) ∧ Bel w w' := by
  go_enter Try.func13, Try.ntmps13
  go_wp2_with (first | (go_at_call 20; refine (rIs_any _ _ _).mono ?_; rintro e w' ⟨rfl, rfl⟩; (first | rw [h1] | rw [h2])) | (go_at_call 43; refine (rSame_any _ _ _ _ _).mono ?_; rintro e w' ⟨rfl, hb⟩; rw [h3, h4]))
  go_ret
  refine ⟨rfl, ?_⟩
  repeat (first | exact bl_refl _ | assumption | apply bl_drewN | apply bl_drew | apply bl_alloc | refine bl_set ?_ (by simp <;> omega) | refine bl_trans ?_ (by assumption))
theorem wpList_runm {w : World} {v u v' : Value} {w' : World} {ops : Array Oper} {rest : List Oper} {o : Oper} {a : Act} {Q : Exit → Act → World → Prop} (hgd : o.guard = none) (s x : Operand)
    (ho : o.op = .call { callee := .builtin .append, args := #[s, x], argTypes := #[23, 23] }) (hv : a.eval s = v) (hx : a.eval x = u) (hrun : ∀ ty, (Builtin.append_ #[23, 23] ty #[v, u]).run Try.prog w = .ok v' w')
    (hK : wpList Try.prog ops Q rest (a.put o.dst v') w') : wpList Try.prog ops Q (o :: rest) a w := by
  refine wpList_plain hgd fun K hK' => ?_
  unfold Oper.wp
  simp [execOp, ho, resolve, invoke, builtin, hv, hx, hrun, Result.andThen]
  exact hK' _ _ hK
theorem mk_row (W : World) : Rw (W.alloc (.cells #[.float .f64 4635118810238550016, .float .f64 0, .float .f64 0, .float .f64 0, .float .f64 4635189178982727680, .float .f64 0, .float .f64 0, .float .f64 0] 28)) W.heap.size 0 [.float .f64 4635118810238550016, .float .f64 0, .float .f64 0, .float .f64 0, .float .f64 4635189178982727680, .float .f64 0, .float .f64 0, .float .f64 0] := by
  intro j u hj
  rw [Nat.zero_add, World.cell?_alloc_new]
  show ([.float .f64 4635118810238550016, .float .f64 0, .float .f64 0, .float .f64 0, .float .f64 4635189178982727680, .float .f64 0, .float .f64 0, .float .f64 0] : List Value).toArray[j]? = some u
  rw [List.getElem?_toArray]
  exact hj
theorem mk_one : ∀ u ∈ ([.float .f64 4635118810238550016, .float .f64 0, .float .f64 0, .float .f64 0, .float .f64 4635189178982727680, .float .f64 0, .float .f64 0, .float .f64 0] : List Value), u.oneCell' = true := by
  intro u hu
  simp only [List.mem_cons, List.not_mem_nil, or_false] at hu
  rcases hu with rfl | rfl | rfl | rfl | rfl | rfl | rfl | rfl <;> rfl
theorem own_fin {base : Nat} {w2 : World} {g c n : Nat} {ms js xs ys : Nat → Nat} (h : OwnR 4 base w2 (.slice (some ⟨g, 0, none⟩) (n + 2) c) (n + 2) (mRow ms js xs ys n ++ [.float .f64 4635118810238550016, .float .f64 0, .float .f64 0, .float .f64 0, .float .f64 4635189178982727680, .float .f64 0, .float .f64 0, .float .f64 0])) : base ≤ g ∧ n + 2 ≤ c ∧ Ml w2 g 0 n ms js xs ys ∧ w2.cell? ⟨g, n * 4, none⟩ = some (.float .f64 4635118810238550016) ∧ w2.cell? ⟨g, (n + 1) * 4, none⟩ = some (.float .f64 4635189178982727680) := by
  rcases h.2 with ⟨e, _⟩ | ⟨g', cap', e, h1, h2, h3, h4, h5, h6⟩
  · simp at e
  · injection e with e1 e2 e3
    injection e1 with e1
    injection e1 with e1
    subst e1 e3
    have q0 := h4 (n * 4) (.float .f64 4635118810238550016) (by rw [List.getElem?_append_right (by rw [mRow_length]; omega), mRow_length, Nat.sub_self]; rfl)
    have q1 := h4 (n * 4 + 4) (.float .f64 4635189178982727680) (by rw [List.getElem?_append_right (by rw [mRow_length]; omega), mRow_length, Nat.add_sub_cancel_left]; rfl)
    rw [Nat.zero_add] at q0 q1
    exact ⟨h1, h2, ml_of h4, q0, by rw [show (n + 1) * 4 = n * 4 + 4 by omega]; exact q1⟩

set_option maxRecDepth 100000 in
set_option maxHeartbeats 8000000 in
theorem walk_any (V : Value) (n : Nat) (ms js xs ys : Nat → Nat) (w : World) (h : AnyM w V n ms js xs ys) : Calls Try.prog 4 #[V] w fun e w' => e = .returned (.bool true) ∧ Bel w w' := by
  have c1 := cmp_eq .f64
  have e77 : eqK .f64 4635118810238550016 4635118810238550016 = true := by decide +kernel
  have e78 : eqK .f64 4635189178982727680 4635189178982727680 = true := by decide +kernel
  obtain ⟨a, cap, rfl, a2, a3, a5, a6⟩ := id h
  by_cases h300 : n ≤ 300
  · rcases a6 with rfl | ⟨hp, b, off, rfl, hM⟩
    · go_enter Try.func4, Try.ntmps4
      go_wp2_with (first | (go_at_call 7; refine (alive8 _).mono ?_; rintro e w_1 ⟨rfl, hb⟩; have B1 := hb; have own0 := ownR_empty 4 w_1.heap.size w_1 28 (Nat.le_refl _); have lm := mk_row (w_1.alloc (.cells #[] 28)); rw [World.size_alloc] at lm; have mz := hide True.intro) | (go_at_call 8; refine (join_none _ _ ms js xs ys _).mono ?_; rintro e w_3 ⟨m1, j1, x1, y1, f1, hJ1, rfl, hb⟩; have bM := bl_alloc (bl_refl w_3) #[.float .f64 m1, .float .f64 j1, .float .f64 x1, .float .f64 y1] 28; have B4 := bl_trans (bl_trans B3 hb) bM; have bb := bl_trans hb bM; replace hMg := hMg.bel bb; replace p77 := keep bb p77; replace p78 := keep bb p78; have u0 : (w_3.alloc (.cells #[.float .f64 m1, .float .f64 j1, .float .f64 x1, .float .f64 y1] 28)).cell? ⟨w_3.heap.size, 0, none⟩ = some (.float .f64 m1) := (by rw [World.cell?_alloc_new]; rfl); have u1 : (w_3.alloc (.cells #[.float .f64 m1, .float .f64 j1, .float .f64 x1, .float .f64 y1] 28)).cell? ⟨w_3.heap.size, 1, none⟩ = some (.float .f64 j1) := (by rw [World.cell?_alloc_new]; rfl); have u2 : (w_3.alloc (.cells #[.float .f64 m1, .float .f64 j1, .float .f64 x1, .float .f64 y1] 28)).cell? ⟨w_3.heap.size, 2, none⟩ = some (.float .f64 x1) := (by rw [World.cell?_alloc_new]; rfl); have u3 : (w_3.alloc (.cells #[.float .f64 m1, .float .f64 j1, .float .f64 x1, .float .f64 y1] 28)).cell? ⟨w_3.heap.size, 3, none⟩ = some (.float .f64 y1) := (by rw [World.cell?_alloc_new]; rfl)) | (go_at_call 12; refine (rjoin_none _ _ ms js xs ys _).mono ?_; rintro e w_4 ⟨m2, j2, x2, y2, f2, hJ2, rfl, hb⟩; obtain ⟨e1, e2, e3, e4, rfl⟩ := JoinA.sm (fun q hq => absurd hq (Nat.not_lt_zero q)) hJ1 hJ2; have bN := bl_alloc (bl_refl w_4) #[.float .f64 m2, .float .f64 j2, .float .f64 x2, .float .f64 y2] 28; have B5 := bl_trans (bl_trans B4 hb) bN; have bb := bl_trans hb bN; replace hMg := hMg.bel bb; replace p77 := keep bb p77; replace p78 := keep bb p78; replace u0 := keep bb u0; replace u1 := keep bb u1; replace u2 := keep bb u2; replace u3 := keep bb u3) | (go_at_call 13; with_reducible refine (same8 _ _ _ _ _ _ _ _ _ e1 e2 e3 e4).mono ?_; rintro e w_5 ⟨rfl, hb⟩; have B6 := bl_trans B5 hb; replace hMg := hMg.bel hb; replace p77 := keep hb p77; replace p78 := keep hb p78) | (have zn := m1q; clear zn; at_builtin; refine wpList_appR (P := Try.prog) (sz := 4) (by_ := 32) (R := []) (N := [.float .f64 4635118810238550016, .float .f64 0, .float .f64 0, .float .f64 0, .float .f64 4635189178982727680, .float .f64 0, .float .f64 0, .float .f64 0]) 23 28 rfl _ _ rfl Try.underlying23 info_mass rfl rfl _ 0 2 2 rfl (own0.bel (bl_alloc (bl_refl _) _ _)) rfl lm mk_one (by decide) (by simp only [World.size_alloc]; omega) (by unfold maxLen; omega) (by omega) ?_; intro v2 w2 hO2 hv2 hb2; obtain ⟨g, c, rfl⟩ := hv2; have B2 := hb2 w_1 (bl_alloc (bl_alloc (bl_refl _) _ _) _ _) (Nat.le_refl _); replace hO2 : OwnR 4 w_1.heap.size w2 (.slice (some ⟨g, 0, none⟩) (0 + 2) c) (0 + 2) (mRow ms js xs ys 0 ++ [.float .f64 4635118810238550016, .float .f64 0, .float .f64 0, .float .f64 0, .float .f64 4635189178982727680, .float .f64 0, .float .f64 0, .float .f64 0]) := hO2; have fo := own_fin (n := 0) hO2; obtain ⟨hg, hc2, hMg, p77, p78⟩ := fo; have hnc : 0 ≤ c := (by omega); have hci : ((0 : Nat) : Int) ≤ (c : Int) := (by omega); have B3 := bl_trans B1 B2; have lg := World.block_lt_of_cell? _ _ p77; simp only at lg) | (at_builtin; refine wpList_runm (v := .slice (some ⟨w_1.heap.size, 0, none⟩) 0 0) (u := .slice a 0 cap) (v' := .slice (some ⟨w_1.heap.size, 0, none⟩) 0 0) (w' := (w_1.alloc (.cells #[] 28))) rfl _ _ rfl rfl rfl (fun ty => run_app0m (w_1.alloc (.cells #[] 28)) ty cap w_1.heap.size a) ?_; have m1q := hide True.intro) | go_in)
      go_loopw [10] (fun i' wr => ∃ q : Nat, q ≤ 0 ∧ i' = .int .i64 q ∧ Bel w wr ∧ Ml wr g 0 0 ms js xs ys ∧ wr.cell? ⟨g, 0 * 4, none⟩ = some (.float .f64 4635118810238550016) ∧ wr.cell? ⟨g, (0 + 1) * 4, none⟩ = some (.float .f64 4635189178982727680)) (fun i' _ => 0 - (intOf i').toNat)
      case atStart => exact ⟨0, by omega, rfl, B6, hMg, p77, p78⟩
      case round =>
        obtain ⟨q, hq, rfl, hB, hMr, r77, r78⟩ := hrel
        by_cases hlt : q < 0
        · omega
        · have hqn : 0 = q := by omega
          subst hqn
          have lgr := World.block_lt_of_cell? _ _ r77
          simp only at lgr
          go_wp2
          go_ret
          exact ⟨rfl, hB⟩
    · have g1' : ¬ (n : Int) > 300 := by omega
      have hL : n ≤ 10000000 := by omega
      have ok : ∀ q, q < n → okK .f64 (xs q) ∧ okK .f64 (ys q) := fun q hq => (a5 q hq).2.2
      have lb := hM.lt hp
      have n1 : (n : Int) ≤ (n : Int) + 2 := by omega
      have w2' : IntKind.wrap .i64 ((n : Int) + 1) = (n : Int) + 1 := by rw [IntKind.wrap_i64]; omega
      have i5 : (n : Int) + 1 < (n : Int) + 2 := by omega
      have i6 : (n : Int) < (n : Int) + 2 := by omega
      have i3 : (0 : Int) ≤ (n : Int) + 1 := by omega
      have i4 : ((n : Int) + 1).toNat = n + 1 := by omega
      go_enter Try.func4, Try.ntmps4
      go_wp2_with (first | (go_at_call 7; refine (alive8 _).mono ?_; rintro e w_1 ⟨rfl, hb⟩; have B1 := hb; have own0 := ownR_empty 4 w_1.heap.size w_1 28 (Nat.le_refl _); have lm := mk_row (w_1.alloc (.cells #[] 28)); rw [World.size_alloc] at lm; have mz := hide True.intro) | (go_at_call 8; refine (join_some g 0 n c ms js xs ys _ hMg hp hnc hL).mono ?_; rintro e w_3 ⟨m1, j1, x1, y1, f1, hJ1, rfl, hb⟩; have bM := bl_alloc (bl_refl w_3) #[.float .f64 m1, .float .f64 j1, .float .f64 x1, .float .f64 y1] 28; have B4 := bl_trans (bl_trans B3 hb) bM; have bb := bl_trans hb bM; replace hMg := hMg.bel bb; replace p77 := keep bb p77; replace p78 := keep bb p78; have u0 : (w_3.alloc (.cells #[.float .f64 m1, .float .f64 j1, .float .f64 x1, .float .f64 y1] 28)).cell? ⟨w_3.heap.size, 0, none⟩ = some (.float .f64 m1) := (by rw [World.cell?_alloc_new]; rfl); have u1 : (w_3.alloc (.cells #[.float .f64 m1, .float .f64 j1, .float .f64 x1, .float .f64 y1] 28)).cell? ⟨w_3.heap.size, 1, none⟩ = some (.float .f64 j1) := (by rw [World.cell?_alloc_new]; rfl); have u2 : (w_3.alloc (.cells #[.float .f64 m1, .float .f64 j1, .float .f64 x1, .float .f64 y1] 28)).cell? ⟨w_3.heap.size, 2, none⟩ = some (.float .f64 x1) := (by rw [World.cell?_alloc_new]; rfl); have u3 : (w_3.alloc (.cells #[.float .f64 m1, .float .f64 j1, .float .f64 x1, .float .f64 y1] 28)).cell? ⟨w_3.heap.size, 3, none⟩ = some (.float .f64 y1) := (by rw [World.cell?_alloc_new]; rfl)) | (go_at_call 12; refine (rjoin_some b off n cap ms js xs ys _ (hM.bel B4) ok hp a2 hL).mono ?_; rintro e w_4 ⟨m2, j2, x2, y2, f2, hJ2, rfl, hb⟩; obtain ⟨e1, e2, e3, e4, rfl⟩ := JoinA.sm ok hJ1 hJ2; have bN := bl_alloc (bl_refl w_4) #[.float .f64 m2, .float .f64 j2, .float .f64 x2, .float .f64 y2] 28; have B5 := bl_trans (bl_trans B4 hb) bN; have bb := bl_trans hb bN; replace hMg := hMg.bel bb; replace p77 := keep bb p77; replace p78 := keep bb p78; replace u0 := keep bb u0; replace u1 := keep bb u1; replace u2 := keep bb u2; replace u3 := keep bb u3) | (go_at_call 13; with_reducible refine (same8 _ _ _ _ _ _ _ _ _ e1 e2 e3 e4).mono ?_; rintro e w_5 ⟨rfl, hb⟩; have B6 := bl_trans B5 hb; replace hMg := hMg.bel hb; replace p77 := keep hb p77; replace p78 := keep hb p78) | (have zn := m1q; clear zn; at_builtin; refine wpList_appR (P := Try.prog) (sz := 4) (by_ := 32) (R := mRow ms js xs ys n) (N := [.float .f64 4635118810238550016, .float .f64 0, .float .f64 0, .float .f64 0, .float .f64 4635189178982727680, .float .f64 0, .float .f64 0, .float .f64 0]) 23 28 rfl _ _ rfl Try.underlying23 info_mass rfl rfl _ 0 2 2 rfl (hO.bel (bl_alloc (bl_refl w1) _ _)) rfl (mk_row _) mk_one (by decide) (Nat.le_trans Bw.size (by simp)) (by unfold maxLen; omega) (by omega) ?_; intro v2 w2 hO2 hv2 hb2; obtain ⟨g, c, rfl⟩ := hv2; have B2 := hb2 w_1 (bl_alloc Bw _ _) (Nat.le_refl _); have fo := own_fin (n := n) hO2; obtain ⟨hg, hc2, hMg, p77, p78⟩ := fo; have hnc : n ≤ c := (by omega); have hci : ((n : Nat) : Int) ≤ (c : Int) := (by omega); have B3 := bl_trans B1 B2; have lg := World.block_lt_of_cell? _ _ p77; simp only at lg) | (at_builtin; refine wpList_appR (P := Try.prog) (sz := 4) (by_ := 32) (R := []) (N := mRow ms js xs ys n) 23 28 rfl _ _ rfl Try.underlying23 info_mass rfl rfl b off n cap rfl own0 (mRow_length _ _ _ _ _) (Ml.rw (hM.bel (bl_trans B1 (bl_alloc (bl_refl _) _ _)))) (mRow_one _ _ _ _ _) hp (by simp) (by unfold maxLen; omega) (by omega) ?_; intro v1 w1 hO hv1 hb1; obtain ⟨g1, cp1, rfl⟩ := hv1; have Bw := hb1 w_1 (bl_alloc (bl_refl _) _ _) (Nat.le_refl _); rw [List.nil_append] at hO; simp only [Nat.zero_add] at hO; have m1q := hide True.intro) | go_in)
      go_loopw [10] (fun i' wr => ∃ q : Nat, q ≤ n ∧ i' = .int .i64 q ∧ Bel w wr ∧ Ml wr g 0 n ms js xs ys ∧ wr.cell? ⟨g, n * 4, none⟩ = some (.float .f64 4635118810238550016) ∧ wr.cell? ⟨g, (n + 1) * 4, none⟩ = some (.float .f64 4635189178982727680)) (fun i' _ => n - (intOf i').toNat)
      case atStart => exact ⟨0, by omega, rfl, B6, hMg, p77, p78⟩
      case round =>
        obtain ⟨q, hq, rfl, hB, hMr, r77, r78⟩ := hrel
        by_cases hlt : q < n
        · have k1' : (q : Int) < (n : Int) := by omega
          obtain ⟨x0, x1, x2, x3⟩ := hMr q hlt
          obtain ⟨y0, y1, y2, y3⟩ := (hM.bel hB) q hlt
          simp only [Nat.zero_add] at x0 x1 x2 x3
          go_wp2
          refine wp_region_multiA 10 (fun i v => match i with | 0 => v = .slice (some ⟨g, 0, none⟩) (n + 2) c | 1 => v = .int .i64 (q : Int) | 2 => v = .pointer (some ⟨g, q * 4, none⟩) | 3 => v = .agg #[.float .f64 (ms q), .float .f64 (js q), .float .f64 (xs q), .float .f64 (ys q)] | 4 => v = .slice (some ⟨b, off, none⟩) n cap | 5 => v = .int .i64 (q : Int) | 6 => v = .pointer (some ⟨b, off + q * 4, none⟩) | 7 => v = .agg #[.float .f64 (ms q), .float .f64 (js q), .float .f64 (xs q), .float .f64 (ys q)] | 8 => v = .bool true | 9 => v = .bool true | _ => False) (fun i => match i with  | _ => none) ?A_wk (by kernel_rfl) (by kernel_rfl) ?hA_wk ?ha_wk ?hq_wk [] rfl ?ht_wk
          case hA_wk =>
            intro s
            simp only [putL, dstO, Act.put, List.getElem?_toArray, List.getElem?_cons_zero, List.getElem?_cons_succ, Option.bind_some, List.setIfInBounds_toArray, List.set_cons_zero, List.set_cons_succ, if_true]
            all_goals exact rfl
          case ha_wk =>
            intro i o ob hi ho hal
            rcases (show i = 0 ∨ i = 1 ∨ i = 2 ∨ i = 3 ∨ i = 4 ∨ i = 5 ∨ i = 6 ∨ i = 7 ∨ i = 8 ∨ i = 9 by omega) with rfl | rfl | rfl | rfl | rfl | rfl | rfl | rfl | rfl | rfl
            · cases hal
            · cases hal
            · cases hal
            · cases hal
            · cases hal
            · cases hal
            · cases hal
            · cases hal
            · cases hal
            · cases hal
          case hq_wk =>
            intro i o hi ho hal s hs W hb K hK
            have g0 := keep hb x0; have g1 := keep hb x1; have g2 := keep hb x2; have g3 := keep hb x3; have k0 := keep hb y0; have k1 := keep hb y1; have k2 := keep hb y2; have k3 := keep hb y3; have lg2 := World.block_lt_of_cell? _ _ g0; have lk2 := World.block_lt_of_cell? _ _ k0; simp only at lg2 lk2
            rcases (show i = 0 ∨ i = 1 ∨ i = 2 ∨ i = 3 ∨ i = 4 ∨ i = 5 ∨ i = 6 ∨ i = 7 ∨ i = 8 ∨ i = 9 by omega) with rfl | rfl | rfl | rfl | rfl | rfl | rfl | rfl | rfl | rfl
            · cases ho
              simp only [Act.put, List.setIfInBounds_toArray, List.set_cons_zero, List.set_cons_succ] at hK
              clear hs
              go_simp
              all_goals (try go_wp2_with (first | (go_at_call 13; refine (same8 _ _ _ _ _ _ _ _ _ (smK_self _ _) (smK_self _ _) (smK_self _ _) (smK_self _ _)).mono ?_; rintro e w' ⟨rfl, hb1⟩)))
              all_goals first | exact hK.out _ _ rfl hb1 | exact hK.out _ _ rfl (bl_refl _) | exact hK.out _ _ rfl (by assumption) | exact hK.out _ _ (by assumption) (by assumption)
            · cases ho
              simp only [Act.put, List.setIfInBounds_toArray, List.set_cons_zero, List.set_cons_succ] at hK
              clear hs
              go_simp
              all_goals (try go_wp2_with (first | (go_at_call 13; refine (same8 _ _ _ _ _ _ _ _ _ (smK_self _ _) (smK_self _ _) (smK_self _ _) (smK_self _ _)).mono ?_; rintro e w' ⟨rfl, hb1⟩)))
              all_goals first | exact hK.out _ _ rfl hb1 | exact hK.out _ _ rfl (bl_refl _) | exact hK.out _ _ rfl (by assumption) | exact hK.out _ _ (by assumption) (by assumption)
            · cases ho
              have e0 : s 0 = _ := hs 0 (by decide) (by kernel_rfl)
              have e1 : s 1 = _ := hs 1 (by decide) (by kernel_rfl)
              simp only [e0, e1] at hK ⊢
              simp only [Act.put, List.setIfInBounds_toArray, List.set_cons_zero, List.set_cons_succ] at hK
              clear hs
              go_simp
              all_goals (try go_wp2_with (first | (go_at_call 13; refine (same8 _ _ _ _ _ _ _ _ _ (smK_self _ _) (smK_self _ _) (smK_self _ _) (smK_self _ _)).mono ?_; rintro e w' ⟨rfl, hb1⟩)))
              all_goals first | exact hK.out _ _ rfl hb1 | exact hK.out _ _ rfl (bl_refl _) | exact hK.out _ _ rfl (by assumption) | exact hK.out _ _ (by assumption) (by assumption)
            · cases ho
              have e2 : s 2 = _ := hs 2 (by decide) (by kernel_rfl)
              simp only [e2] at hK ⊢
              simp only [Act.put, List.setIfInBounds_toArray, List.set_cons_zero, List.set_cons_succ] at hK
              clear hs
              go_simp
              all_goals (try go_wp2_with (first | (go_at_call 13; refine (same8 _ _ _ _ _ _ _ _ _ (smK_self _ _) (smK_self _ _) (smK_self _ _) (smK_self _ _)).mono ?_; rintro e w' ⟨rfl, hb1⟩)))
              all_goals first | exact hK.out _ _ rfl hb1 | exact hK.out _ _ rfl (bl_refl _) | exact hK.out _ _ rfl (by assumption) | exact hK.out _ _ (by assumption) (by assumption)
            · cases ho
              simp only [Act.put, List.setIfInBounds_toArray, List.set_cons_zero, List.set_cons_succ] at hK
              clear hs
              go_simp
              all_goals (try go_wp2_with (first | (go_at_call 13; refine (same8 _ _ _ _ _ _ _ _ _ (smK_self _ _) (smK_self _ _) (smK_self _ _) (smK_self _ _)).mono ?_; rintro e w' ⟨rfl, hb1⟩)))
              all_goals first | exact hK.out _ _ rfl hb1 | exact hK.out _ _ rfl (bl_refl _) | exact hK.out _ _ rfl (by assumption) | exact hK.out _ _ (by assumption) (by assumption)
            · cases ho
              simp only [Act.put, List.setIfInBounds_toArray, List.set_cons_zero, List.set_cons_succ] at hK
              clear hs
              go_simp
              all_goals (try go_wp2_with (first | (go_at_call 13; refine (same8 _ _ _ _ _ _ _ _ _ (smK_self _ _) (smK_self _ _) (smK_self _ _) (smK_self _ _)).mono ?_; rintro e w' ⟨rfl, hb1⟩)))
              all_goals first | exact hK.out _ _ rfl hb1 | exact hK.out _ _ rfl (bl_refl _) | exact hK.out _ _ rfl (by assumption) | exact hK.out _ _ (by assumption) (by assumption)
            · cases ho
              have e4 : s 4 = _ := hs 4 (by decide) (by kernel_rfl)
              have e5 : s 5 = _ := hs 5 (by decide) (by kernel_rfl)
              simp only [e4, e5] at hK ⊢
              simp only [Act.put, List.setIfInBounds_toArray, List.set_cons_zero, List.set_cons_succ] at hK
              clear hs
              go_simp
              all_goals (try go_wp2_with (first | (go_at_call 13; refine (same8 _ _ _ _ _ _ _ _ _ (smK_self _ _) (smK_self _ _) (smK_self _ _) (smK_self _ _)).mono ?_; rintro e w' ⟨rfl, hb1⟩)))
              all_goals first | exact hK.out _ _ rfl hb1 | exact hK.out _ _ rfl (bl_refl _) | exact hK.out _ _ rfl (by assumption) | exact hK.out _ _ (by assumption) (by assumption)
            · cases ho
              have e6 : s 6 = _ := hs 6 (by decide) (by kernel_rfl)
              simp only [e6] at hK ⊢
              simp only [Act.put, List.setIfInBounds_toArray, List.set_cons_zero, List.set_cons_succ] at hK
              clear hs
              go_simp
              all_goals (try go_wp2_with (first | (go_at_call 13; refine (same8 _ _ _ _ _ _ _ _ _ (smK_self _ _) (smK_self _ _) (smK_self _ _) (smK_self _ _)).mono ?_; rintro e w' ⟨rfl, hb1⟩)))
              all_goals first | exact hK.out _ _ rfl hb1 | exact hK.out _ _ rfl (bl_refl _) | exact hK.out _ _ rfl (by assumption) | exact hK.out _ _ (by assumption) (by assumption)
            · cases ho
              have e3 : s 3 = _ := hs 3 (by decide) (by kernel_rfl)
              have e7 : s 7 = _ := hs 7 (by decide) (by kernel_rfl)
              simp only [e3, e7] at hK ⊢
              simp only [Act.put, List.setIfInBounds_toArray, List.set_cons_zero, List.set_cons_succ] at hK
              clear hs
              go_simp
              all_goals (try go_wp2_with (first | (go_at_call 13; refine (same8 _ _ _ _ _ _ _ _ _ (smK_self _ _) (smK_self _ _) (smK_self _ _) (smK_self _ _)).mono ?_; rintro e w' ⟨rfl, hb1⟩)))
              all_goals first | exact hK.out _ _ rfl hb1 | exact hK.out _ _ rfl (bl_refl _) | exact hK.out _ _ rfl (by assumption) | exact hK.out _ _ (by assumption) (by assumption)
            · cases ho
              have e8 : s 8 = _ := hs 8 (by decide) (by kernel_rfl)
              simp only [e8] at hK ⊢
              simp only [Act.put, List.setIfInBounds_toArray, List.set_cons_zero, List.set_cons_succ] at hK
              clear hs
              go_simp
              all_goals (try go_wp2_with (first | (go_at_call 13; refine (same8 _ _ _ _ _ _ _ _ _ (smK_self _ _) (smK_self _ _) (smK_self _ _) (smK_self _ _)).mono ?_; rintro e w' ⟨rfl, hb1⟩)))
              all_goals first | exact hK.out _ _ rfl hb1 | exact hK.out _ _ rfl (bl_refl _) | exact hK.out _ _ rfl (by assumption) | exact hK.out _ _ (by assumption) (by assumption)
          case ht_wk =>
            intro s hs W hb hJ
            have e0 : s 0 = _ := hs 0 (by decide)
            have e1 : s 1 = _ := hs 1 (by decide)
            have e2 : s 2 = _ := hs 2 (by decide)
            have e3 : s 3 = _ := hs 3 (by decide)
            have e4 : s 4 = _ := hs 4 (by decide)
            have e5 : s 5 = _ := hs 5 (by decide)
            have e6 : s 6 = _ := hs 6 (by decide)
            have e7 : s 7 = _ := hs 7 (by decide)
            have e8 : s 8 = _ := hs 8 (by decide)
            have e9 : s 9 = _ := hs 9 (by decide)
            simp only [e0, e1, e2, e3, e4, e5, e6, e7, e8, e9]
            clear hs
            refine tail_end ?_
            go_wp2
            exact ⟨⟨q + 1, by omega, by go_num, bl_trans hB hb, hMr.bel hb, keep hb r77, keep hb r78⟩, by simp [intOf]; omega⟩
        · have hqn : n = q := by omega
          subst hqn
          have lgr := World.block_lt_of_cell? _ _ r77
          simp only at lgr
          go_wp2
          go_ret
          exact ⟨rfl, hB⟩
  · have g1' : (n : Int) > 300 := by omega
    go_enter Try.func4, Try.ntmps4
    go_wp2_with (first | (go_at_call 7; refine (alive8 _).mono ?_; rintro e w' ⟨rfl, hb⟩))
    go_ret
    exact ⟨rfl, hb⟩

/-- a row of masses: none, or len of them in cells, with room for cap -/
def IsMasses (w : World) (a : Option Addr) (len cap : Nat) : Prop :=
  (a = none ∧ len = 0 ∧ cap = 0) ∨ ∃ (x : Addr) (ms js xs ys : Nat → Nat), a = some x ∧ len ≤ cap ∧ cap ≤ maxLen ∧ ∀ i, i < len → w.cell? (x.add (i * 4)) = some (.float .f64 (ms i)) ∧ w.cell? (x.add (i * 4 + 1)) = some (.float .f64 (js i)) ∧ w.cell? (x.add (i * 4 + 2)) = some (.float .f64 (xs i)) ∧ w.cell? (x.add (i * 4 + 3)) = some (.float .f64 (ys i)) ∧ okK .f64 (ms i) ∧ okK .f64 (js i) ∧ okK .f64 (xs i) ∧ okK .f64 (ys i)
theorem any_of {w : World} {a : Option Addr} {len cap : Nat} (h : IsMasses w a len cap) : ∃ ms js xs ys, AnyM w (.slice a len cap) len ms js xs ys := by
  rcases h with ⟨rfl, rfl, rfl⟩ | ⟨x, ms, js, xs, ys, rfl, hl, hm, hcell⟩
  · exact ⟨fun _ => 0, fun _ => 0, fun _ => 0, fun _ => 0, _, _, rfl, Nat.le_refl _, by decide, fun i hi => by omega, .inl rfl⟩
  · refine ⟨ms, js, xs, ys, _, _, rfl, hl, Nat.le_trans hl hm, fun i hi => (hcell i hi).2.2.2.2, ?_⟩
    rcases Nat.eq_zero_or_pos len with h0 | h0
    · exact .inl h0
    · right
      obtain ⟨b, off, spot⟩ := x
      have hspot : spot = none := by simpa [Addr.add] using World.cell?_spot (hcell 0 h0).1
      subst hspot
      refine ⟨h0, b, off, rfl, fun i hi => ?_⟩
      obtain ⟨h1, h2, h3, h4, _⟩ := hcell i hi
      rw [add_plain] at h1 h2 h3 h4
      rw [← Nat.add_assoc] at h2 h3 h4
      exact ⟨h1, h2, h3, h4⟩
theorem walk (a0 : Option Addr) (len0 cap0 : Nat) (w : World) (h0 : IsMasses w a0 len0 cap0) :
    Calls Try.prog 4 #[.slice a0 len0 cap0] w fun e w' => e = .returned (.bool true) ∧ Below w.heap.size w w' := by
  obtain ⟨ms0, js0, xs0, ys0, g0⟩ := any_of h0
  exact (walk_any _ _ ms0 js0 xs0 ys0 w g0).mono fun e w' h => ⟨h.1, h.2.1⟩

set_option maxRecDepth 100000 in
theorem lifted (os : Os) (started : os.Started) (H : Type) (enc : TypeId × Value → H) :
    ReturnsInHanded {} Try.checked os 4 .any (Rows.massJoinsSpec.pre6 enc Try.prog Try.f4 Rows.massJoinsRow.domain false) (Rows.massJoinsSpec.post enc Try.prog Try.f4 false true false false) := by
  refine returnsInHanded_of_change_sized (C := Try.checked) own started (by kernel_rfl) Try.func4
    (ChangeSpec.witness6 (enc := enc) (C := Try.checked) false ⟨#[], #[.slice none 0 0], []⟩ 8 (by kernel_rfl) (by kernel_rfl) (by kernel_rfl) (by kernel_rfl)) ?_
  intro W base args ds gs before hval0 hW hcnd hsz0 _
  have hsz : (DataW.weightsEach Try.prog (Try.f4.params.toList ++ Rows.massJoinsSpec.plain.varTypes Try.prog) (ds ++ gs)).all (· ≤ reachBytes) = true := hsz0
  have hval : ∀ (j : Nat) t v, Try.f4.params[j]? = some t → args[j]? = some v → Value.okWide Try.prog W .any base t v := hval0
  have hW' := hW
  obtain ⟨p, q, hA0, hV, rfl, hfz, hnd⟩ := hW
  have hA : DataW.TrodAll enc Try.prog W 0 (fun _ => true) true Try.f4.params.toList args.toList ds p := hA0
  rw [Try.params4] at hA hval hsz
  obtain ⟨v0, vs0, d0, ds0, p0, q0, hargs, rfl, rfl, h0, r0⟩ := trodAll_cons hA
  obtain ⟨rfl, rfl, rfl⟩ := trodAll_nil r0
  obtain rfl : args = #[v0] := by cases args; simp_all
  obtain ⟨rfl, rfl⟩ := trodVars_none hV
  obtain ⟨a0, len0, cap0, rfl⟩ := okWide_slice Try.underlying23 (hval 0 23 v0 rfl rfl)
  have k0 := h0
  have lt0 : ∀ x ∈ p0, x.block < W.heap.size := by obtain ⟨m, hm⟩ := k0; exact DataW.trod_lt m _ _ _ hm
  have w0 : IsMasses W a0 len0 cap0 := by
    obtain ⟨fuel, hf⟩ := h0
    rcases Go.Deep.open_slice Try.underlying23 hf with ⟨hcs, _⟩ | ⟨x, l, c, m, n, D, Pl, hcs, _, hl, hm, hmm, hx, hcell⟩
    · simp [Value.cells] at hcs
      exact .inl hcs
    · simp [Value.cells] at hcs
      obtain ⟨rfl, rfl, rfl⟩ := hcs
      have hlm : len0 ≤ m := by rw [hmm]; split <;> omega
      have V : ∀ i, ∃ q : Nat × Nat × Nat × Nat, i < m → W.cell? (x.add (i * 4)) = some (.float .f64 q.1) ∧ W.cell? (x.add (i * 4 + 1)) = some (.float .f64 q.2.1) ∧ W.cell? (x.add (i * 4 + 2)) = some (.float .f64 q.2.2.1) ∧ W.cell? (x.add (i * 4 + 3)) = some (.float .f64 q.2.2.2) ∧ okK .f64 q.1 ∧ okK .f64 q.2.1 ∧ okK .f64 q.2.2.1 ∧ okK .f64 q.2.2.2 := by
        intro i
        by_cases hi : i < m
        · obtain ⟨cs', h1, h2⟩ := hcell i hi
          rw [cellsM] at h1
          obtain ⟨_, hlen, hce⟩ := World.cells?_some h1
          obtain ⟨y0, y1, y2, n', hx', _, g0, g1, g2⟩ := Go.Deep.trod_struct3 Try.underlying28 h2
          match cs', hlen with
          | [v0, v1, v2, v3], _ =>
            simp [cellsV, cellsF] at g0 g1 g2
            obtain ⟨z0, z1, n2, hz, _, g4, g5⟩ := trod_struct2 Try.underlying26 g2
            simp [cellsF] at g4 g5
            obtain ⟨a, e0, _, wa⟩ := trod_fl Try.underlying24 g0
            obtain ⟨b, e1, _, wb⟩ := trod_fl Try.underlying24 g1
            obtain ⟨c, e2, _, wc⟩ := trod_fl Try.underlying24 g4
            obtain ⟨d, e3, _, wd⟩ := trod_fl Try.underlying24 g5
            simp at e0 e1 e2 e3
            subst e0 e1 e2 e3
            have q0 := hce 0 (by omega)
            have q1 := hce 1 (by omega)
            have q2 := hce 2 (by omega)
            have q3 := hce 3 (by omega)
            rw [Go.Deep.add_add] at q0 q1 q2 q3
            exact ⟨(a, b, c, d), fun _ => ⟨by simpa using q0, by simpa using q1, by simpa using q2, by simpa using q3, wf_f64 wa, wf_f64 wb, wf_f64 wc, wf_f64 wd⟩⟩
        · exact ⟨(0, 0, 0, 0), fun h => absurd h hi⟩
      have V' := Classical.axiomOfChoice V
      obtain ⟨f, hf'⟩ := V'
      exact .inr ⟨x, fun i => (f i).1, fun i => (f i).2.1, fun i => (f i).2.2.1, fun i => (f i).2.2.2, rfl, hl, hm, fun i hi => hf' i (by omega)⟩
  clear hA0 hval0 hsz0
  refine (walk a0 len0 cap0 W w0).mono fun e W' ⟨he, bel0⟩ => ?_
  have bel := bel0
  subst he
  exact ⟨_, rfl, _, _, _, [], _, [], hW', trodAll_mk1 (shut_bool Try.underlying4 _), (trodAll_cons_mk (Below.trod laidOut (by kernel_rfl) (of_decide_eq_true (by kernel_rfl)) k0 bel lt0) trodAll_mk0), rfl, bel.frame _, fun h => by cases h⟩

theorem over : Rows.massJoinsRow.holds Try.pinned (OpenSpec.ofChange Rows.massJoinsSpec) :=
  OpenClaim.holds_of_wide 4 Try.f4 rfl rfl rfl rfl rfl rfl rfl ⟨rfl, rfl, rfl, rfl, rfl⟩ rfl rfl rfl rfl rfl (by kernel_rfl) Try.func4 (by kernel_rfl)
    (of_decide_eq_true (by kernel_rfl)) (by unfold Func.isWrapper; first | (rw [if_pos (by decide +kernel)]; kernel_rfl) | (rw [if_neg (by decide +kernel)]; exact ⟨rfl, rfl⟩))
    (fun os started H enc _ => lifted os started H enc)

theorem proved : Rows.MassJoinsSaid :=
  over
#print axioms proved
end Go.Proofs.Ytnedolgeghbliaa.massJoins
