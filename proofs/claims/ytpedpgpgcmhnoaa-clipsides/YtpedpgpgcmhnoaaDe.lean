/-
  What each function of package poly answers, and what the reference of its chapter answers: one contract a function, for every float: the answer stands in the relation of its formula to what was given; of the memory that was there nothing has turned.
-/
import Derived.Test.YtpedpgpgcmhnoaaVec
import Derived.Test.YtpedpgpgcmhnoaaCl
import Derived.Test.YtpedpgpgcmhnoaaPn
import Derived.Test.YtpedpgpgcmhnoaaApw
import Derived.Below
import Derived.OwnWalk
import Derived.Laws.AppendOwn
import Derived.Laws.StructEq
import Derived.LoopN
import Derived.WalkKit
import Derived.WalkLawsBesides
import Derived.WalkSpells
import Derived.ProofKit
import Derived.OpenShut
import Derived.Deep.RegionHeld3
namespace Go.Proofs.Ytpedpgpgcmhnoaa
open Go.ChangeShapes Go.WideShapes Go.ChangeAt Go.RowKit
set_option linter.unusedVariables false
set_option linter.unusedSimpArgs false

theorem rSame_eq (x y : Nat) (w : World) : Calls Try.prog 53 #[.agg #[.float .f64 x, .float .f64 y], .agg #[.float .f64 x, .float .f64 y]] w fun e w' => e = .returned (.bool true) ∧ Bel w w' := by
  have h := rSame_any x y x y w
  rw [smK_self, smK_self] at h
  exact h
theorem same_eq (a o1 c1 b o2 c2 n : Nat) (xs ys : Nat → Nat) (w : World) (sA : Sl w a o1 n xs ys) (sB : Sl w b o2 n xs ys) (hn : n ≤ maxLen) (h1 : n ≤ c1) (h2 : n ≤ c2) : Calls Try.prog 17 #[.slice (some ⟨a, o1, none⟩) n c1, .slice (some ⟨b, o2, none⟩) n c2] w fun e w' => e = .returned (.bool true) ∧ Bel w w' := by
  unfold maxLen at hn
  go_enter Try.func17, Try.ntmps17
  go_wp2
  go_loopw [5] (fun i' wr => ∃ k : Nat, k ≤ n ∧ i' = .int .i64 k ∧ Bel w wr) (fun i' _ => n - (intOf i').toNat)
  case atStart => exact ⟨0, by omega, rfl, bl_refl _⟩
  case round =>
    obtain ⟨k, hk, rfl, hB⟩ := hrel
    by_cases hlt : k < n
    · have k1 : (k : Int) < (n : Int) := by omega
      go_wp2
      refine wp_region_multiA 10 (fun i v => match i with | 0 => v = .slice (some ⟨a, o1, none⟩) n c1 | 1 => v = .int .i64 (k : Int) | 2 => v = .pointer (some ⟨a, o1 + k * 2, none⟩) | 3 => v = .agg #[.float .f64 (xs k), .float .f64 (ys k)] | 4 => v = .slice (some ⟨b, o2, none⟩) n c2 | 5 => v = .int .i64 (k : Int) | 6 => v = .pointer (some ⟨b, o2 + k * 2, none⟩) | 7 => v = .agg #[.float .f64 (xs k), .float .f64 (ys k)] | 8 => v = .bool true | 9 => v = .bool false | _ => False) (fun i => match i with  | _ => none) ?A_wh (by kernel_rfl) (by kernel_rfl) ?hA_wh ?ha_wh ?hq_wh [] rfl ?ht_wh
      case hA_wh =>
        intro s
        simp only [putL, dstO, Act.put, List.getElem?_toArray, List.getElem?_cons_zero, List.getElem?_cons_succ, Option.bind_some, List.setIfInBounds_toArray, List.set_cons_zero, List.set_cons_succ, if_true]
        all_goals exact rfl
      case ha_wh =>
        intro i o ob hi ho hal
        rcases (show i = 0 ∨ i = 1 ∨ i = 2 ∨ i = 3 ∨ i = 4 ∨ i = 5 ∨ i = 6 ∨ i = 7 ∨ i = 8 ∨ i = 9 by omega) with rfl | rfl | rfl | rfl | rfl | rfl | rfl | rfl | rfl | rfl
        · cases hal
        · cases hal
        · cases hal
        · cases hal
        · cases hal
        · cases hal
        · cases hal
        · cases hal
        · cases hal
        · cases hal
      case hq_wh =>
        intro i o hi ho hal s hs W hb K hK
        obtain ⟨y0, y1⟩ := (sA.bel (bl_trans hB hb)) k hlt; obtain ⟨y2, y3⟩ := (sB.bel (bl_trans hB hb)) k hlt
        rcases (show i = 0 ∨ i = 1 ∨ i = 2 ∨ i = 3 ∨ i = 4 ∨ i = 5 ∨ i = 6 ∨ i = 7 ∨ i = 8 ∨ i = 9 by omega) with rfl | rfl | rfl | rfl | rfl | rfl | rfl | rfl | rfl | rfl
        · cases ho
          simp only [Act.put, List.setIfInBounds_toArray, List.set_cons_zero, List.set_cons_succ] at hK
          clear hs
          go_simp
          all_goals (try go_wp2_with (first | (go_at_call 53; refine (rSame_eq _ _ _).mono ?_; rintro e w1 ⟨rfl, hb1⟩)))
          all_goals first | exact hK.out _ _ rfl (bl_refl _) | exact hK.out _ _ rfl (by assumption) | exact hK.out _ _ (by assumption) (by assumption)
        · cases ho
          simp only [Act.put, List.setIfInBounds_toArray, List.set_cons_zero, List.set_cons_succ] at hK
          clear hs
          go_simp
          all_goals (try go_wp2_with (first | (go_at_call 53; refine (rSame_eq _ _ _).mono ?_; rintro e w1 ⟨rfl, hb1⟩)))
          all_goals first | exact hK.out _ _ rfl (bl_refl _) | exact hK.out _ _ rfl (by assumption) | exact hK.out _ _ (by assumption) (by assumption)
        · cases ho
          have e0 : s 0 = _ := hs 0 (by decide) (by kernel_rfl)
          have e1 : s 1 = _ := hs 1 (by decide) (by kernel_rfl)
          simp only [e0, e1] at hK ⊢
          simp only [Act.put, List.setIfInBounds_toArray, List.set_cons_zero, List.set_cons_succ] at hK
          clear hs
          go_simp
          all_goals (try go_wp2_with (first | (go_at_call 53; refine (rSame_eq _ _ _).mono ?_; rintro e w1 ⟨rfl, hb1⟩)))
          all_goals first | exact hK.out _ _ rfl (bl_refl _) | exact hK.out _ _ rfl (by assumption) | exact hK.out _ _ (by assumption) (by assumption)
        · cases ho
          have e2 : s 2 = _ := hs 2 (by decide) (by kernel_rfl)
          simp only [e2] at hK ⊢
          simp only [Act.put, List.setIfInBounds_toArray, List.set_cons_zero, List.set_cons_succ] at hK
          clear hs
          go_simp
          all_goals (try go_wp2_with (first | (go_at_call 53; refine (rSame_eq _ _ _).mono ?_; rintro e w1 ⟨rfl, hb1⟩)))
          all_goals first | exact hK.out _ _ rfl (bl_refl _) | exact hK.out _ _ rfl (by assumption) | exact hK.out _ _ (by assumption) (by assumption)
        · cases ho
          simp only [Act.put, List.setIfInBounds_toArray, List.set_cons_zero, List.set_cons_succ] at hK
          clear hs
          go_simp
          all_goals (try go_wp2_with (first | (go_at_call 53; refine (rSame_eq _ _ _).mono ?_; rintro e w1 ⟨rfl, hb1⟩)))
          all_goals first | exact hK.out _ _ rfl (bl_refl _) | exact hK.out _ _ rfl (by assumption) | exact hK.out _ _ (by assumption) (by assumption)
        · cases ho
          simp only [Act.put, List.setIfInBounds_toArray, List.set_cons_zero, List.set_cons_succ] at hK
          clear hs
          go_simp
          all_goals (try go_wp2_with (first | (go_at_call 53; refine (rSame_eq _ _ _).mono ?_; rintro e w1 ⟨rfl, hb1⟩)))
          all_goals first | exact hK.out _ _ rfl (bl_refl _) | exact hK.out _ _ rfl (by assumption) | exact hK.out _ _ (by assumption) (by assumption)
        · cases ho
          have e4 : s 4 = _ := hs 4 (by decide) (by kernel_rfl)
          have e5 : s 5 = _ := hs 5 (by decide) (by kernel_rfl)
          simp only [e4, e5] at hK ⊢
          simp only [Act.put, List.setIfInBounds_toArray, List.set_cons_zero, List.set_cons_succ] at hK
          clear hs
          go_simp
          all_goals (try go_wp2_with (first | (go_at_call 53; refine (rSame_eq _ _ _).mono ?_; rintro e w1 ⟨rfl, hb1⟩)))
          all_goals first | exact hK.out _ _ rfl (bl_refl _) | exact hK.out _ _ rfl (by assumption) | exact hK.out _ _ (by assumption) (by assumption)
        · cases ho
          have e6 : s 6 = _ := hs 6 (by decide) (by kernel_rfl)
          simp only [e6] at hK ⊢
          simp only [Act.put, List.setIfInBounds_toArray, List.set_cons_zero, List.set_cons_succ] at hK
          clear hs
          go_simp
          all_goals (try go_wp2_with (first | (go_at_call 53; refine (rSame_eq _ _ _).mono ?_; rintro e w1 ⟨rfl, hb1⟩)))
          all_goals first | exact hK.out _ _ rfl (bl_refl _) | exact hK.out _ _ rfl (by assumption) | exact hK.out _ _ (by assumption) (by assumption)
        · cases ho
          have e3 : s 3 = _ := hs 3 (by decide) (by kernel_rfl)
          have e7 : s 7 = _ := hs 7 (by decide) (by kernel_rfl)
          simp only [e3, e7] at hK ⊢
          simp only [Act.put, List.setIfInBounds_toArray, List.set_cons_zero, List.set_cons_succ] at hK
          clear hs
          go_simp
          all_goals (try go_wp2_with (first | (go_at_call 53; refine (rSame_eq _ _ _).mono ?_; rintro e w1 ⟨rfl, hb1⟩)))
          all_goals first | exact hK.out _ _ rfl (bl_refl _) | exact hK.out _ _ rfl (by assumption) | exact hK.out _ _ (by assumption) (by assumption)
        · cases ho
          have e8 : s 8 = _ := hs 8 (by decide) (by kernel_rfl)
          simp only [e8] at hK ⊢
          simp only [Act.put, List.setIfInBounds_toArray, List.set_cons_zero, List.set_cons_succ] at hK
          clear hs
          go_simp
          all_goals (try go_wp2_with (first | (go_at_call 53; refine (rSame_eq _ _ _).mono ?_; rintro e w1 ⟨rfl, hb1⟩)))
          all_goals first | exact hK.out _ _ rfl (bl_refl _) | exact hK.out _ _ rfl (by assumption) | exact hK.out _ _ (by assumption) (by assumption)
      case ht_wh =>
        intro s hs W hb hJ
        have e0 : s 0 = _ := hs 0 (by decide)
        have e1 : s 1 = _ := hs 1 (by decide)
        have e2 : s 2 = _ := hs 2 (by decide)
        have e3 : s 3 = _ := hs 3 (by decide)
        have e4 : s 4 = _ := hs 4 (by decide)
        have e5 : s 5 = _ := hs 5 (by decide)
        have e6 : s 6 = _ := hs 6 (by decide)
        have e7 : s 7 = _ := hs 7 (by decide)
        have e8 : s 8 = _ := hs 8 (by decide)
        have e9 : s 9 = _ := hs 9 (by decide)
        simp only [e0, e1, e2, e3, e4, e5, e6, e7, e8, e9]
        clear hs
        refine tail_end ?_
        go_wp2
        exact ⟨⟨k + 1, by omega, by go_num, bl_trans hB hb⟩, by simp [intOf]; omega⟩
    · have hkn : k = n := by omega
      subst hkn
      go_wp2
      go_ret
      exact ⟨rfl, hB⟩
theorem same_nil (u v : Option Addr) (c1 c2 : Nat) (w : World) : Calls Try.prog 17 #[.slice u 0 c1, .slice v 0 c2] w fun e w' => e = .returned (.bool true) ∧ Bel w w' := by
  go_enter Try.func17, Try.ntmps17
  go_wp2
  refine wp_loop_rounds 1 ?_
  rw [rounds_succ]
  go_wp2
  go_ret
  exact ⟨rfl, bl_refl _⟩
def sqL : List Pt := [(0, 0), (4611686018427387904, 0), (4611686018427387904, 4611686018427387904), (0, 4611686018427387904)]
def otL : List Pt := [(4613937818241073152, 0), (4617315517961601024, 0), (4617315517961601024, 4611686018427387904), (4613937818241073152, 4611686018427387904)]
def exL : List Pt := [(4611686018427387904, 4611686018427387904), (0, 0), (4607182418800017408, 4607182418800017408), (4611686018427387904, 0), (0, 4611686018427387904), (4611686018427387904, 0)]

theorem oks_of {L : List Pt} (h : L.all (fun p => decide (p.1 < 18446744073709551616) && decide (p.2 < 18446744073709551616)) = true) : Oks (px L) (py L) L.length := fun i hi => by
  have := List.all_eq_true.1 h _ (pt_mem hi)
  rw [Bool.and_eq_true, decide_eq_true_eq, decide_eq_true_eq] at this
  rw [okK64, okK64]
  exact this

/-- a row with no room left (or none at all) -/
def Full (w : World) (v : Value) (L : List Pt) : Prop := (v = .slice none 0 0 ∧ L = []) ∨ ∃ g, v = .slice (some ⟨g, 0, none⟩) L.length L.length ∧ Sl w g 0 L.length (px L) (py L)
theorem run_full {w : World} {v : Value} {L M : List Pt} (ty a ao c : Nat) (h : Full w v L) (hs : Sl w a ao M.length (px M) (py M)) (hM : 0 < M.length) (hr : (L.length + M.length) * 16 ≤ 225000000000000) :
    ∃ v' w', (Builtin.append_ #[27, 27] ty #[v, .slice (some ⟨a, ao, none⟩) M.length c]).run Try.prog w = .ok v' w' ∧ Own w.heap.size w' v' (L ++ M) ∧ Bel w w' := by
  rcases h with ⟨rfl, rfl⟩ | ⟨g, rfl, hS⟩
  · obtain ⟨v', w', h1, h2, h3⟩ := run_appw ty a ao c (Own.nil w.heap.size w) hs hM (Nat.le_refl _) (by simpa using hr)
    exact ⟨v', w', h1, h2, h3 w (bl_refl w) (Nat.le_refl _)⟩
  · obtain ⟨i0, hi, hz0, hz1, hz2⟩ := info_parts info_vec
    have hml : L.length + M.length ≤ maxLen := by unfold maxLen; omega
    have zs : ∀ k, (Builtin.zeroCells (.agg #[.float .f64 0, .float .f64 0] : Value).cells k).size = k * 2 := fun k => by rw [size_zeroCells]; rfl
    have hr' := run_append_grow (P := Try.prog) w 27 ty 24 i0 (.agg #[.float .f64 0, .float .f64 0]) Try.underlying27 hi hz0 ⟨g, 0, none⟩ L.length L.length (prRow (px L) (py L) L.length) (by rw [hz1, prRow_length]) (prRow_cells hS) ⟨a, ao, none⟩ M.length c (prRow (px M) (py M) M.length) (by rw [hz1, prRow_length]) (prRow_cells hs) (by omega) (by unfold maxLen at hml; omega) (by rw [hz2]; exact growslice_fits_wide (by omega) (by omega))
    have hge := grownCap_ge w (L.length + M.length) L.length 24
    have hcm := grownCap_le_maxLen w (L.length + M.length) L.length 24 hml
    refine ⟨_, _, hr', ?_, bl_alloc (bl_drew (bl_refl w)) _ _⟩
    have hg := own_new (base := w.heap.size) (w := w.drew) (L := L ++ M) (cs := (prRow (px L) (py L) L.length).toArray ++ (prRow (px M) (py M) M.length).toArray ++ Builtin.zeroCells (.agg #[.float .f64 0, .float .f64 0] : Value).cells (grownCap w (L.length + M.length) L.length 24 - (L.length + M.length))) (cap := grownCap w (L.length + M.length) L.length 24) (Nat.le_refl _) (by rw [List.length_append]; exact hge) hcm (by
      simp only [Array.size_append, List.size_toArray, prRow_length, zs]
      omega) (fun j hj => by
      rw [List.length_append] at hj
      rw [Array.getElem?_append_left (by simp only [Array.size_append, List.size_toArray, prRow_length]; omega), ← prRow_app, ← List.getElem?_toArray]
      simp)
    rw [List.length_append] at hg
    exact hg
theorem wpList_full {w : World} {v : Value} {L M : List Pt} {ops : Array Oper} {rest : List Oper} {o : Oper} {a : Act} {Q : Exit → Act → World → Prop} (hgd : o.guard = none) (s x : Operand)
    (ho : o.op = .call { callee := .builtin .append, args := #[s, x], argTypes := #[27, 27] }) (hv : a.eval s = v) (b ao c : Nat) (hx : a.eval x = .slice (some ⟨b, ao, none⟩) M.length c)
    (h : Full w v L) (hs : Sl w b ao M.length (px M) (py M)) (hM : 0 < M.length) (hr : (L.length + M.length) * 16 ≤ 225000000000000)
    (hK : ∀ v' w', Own w.heap.size w' v' (L ++ M) → Bel w w' → wpList Try.prog ops Q rest (a.put o.dst v') w') : wpList Try.prog ops Q (o :: rest) a w := by
  obtain ⟨v', w', hrun, h1, h2⟩ := run_full o.type b ao c h hs hM hr
  refine wpList_plain hgd fun K hK' => ?_
  unfold Oper.wp
  simp [execOp, ho, resolve, invoke, builtin, hv, hx, hrun, Result.andThen]
  exact hK' _ _ (hK v' w' h1 h2)
theorem Full.bel {w w' : World} {v : Value} {L : List Pt} (h : Full w v L) (g : Bel w w') : Full w' v L := by
  rcases h with h | ⟨k, e, hS⟩
  · exact .inl h
  · exact .inr ⟨k, e, hS.bel g⟩
/-- what is set in a new block -/
theorem Mo.new {b c o : Nat} {w w1 : World} {v : Value} (h : Mo b w w1) (hc : w.heap.size ≤ c) (hb : b < w.heap.size) : Mo b w (w1.setCell ⟨c, o, none⟩ v) :=
  ⟨by simpa [World.setCell] using h.size, fun a => (World.frozen?_setCell _ _ _ _).trans (h.fz a), fun c' o' hc' hb' => (World.cell?_setCell_far _ _ _ _ (by show c ≠ c'; omega)).trans (h.cell c' o' hc' hb'), fun W0 h0 h1 => bl_set (h.bel W0 h0 h1) (by show W0.heap.size ≤ c; omega)⟩
def rep (p : Pt) (n : Nat) : List Pt := List.replicate n p

def sq9 : List Pt := [(0, 0), (4611686018427387904, 0), (4611686018427387904, 4611686018427387904), (0, 4611686018427387904)]
def ot9 : List Pt := [(4617315517961601024, 0), (4619567317775286272, 0), (4619567317775286272, 4611686018427387904), (4617315517961601024, 4611686018427387904)]
def lf9 : List Pt := [(0, 0), (4607182418800017408, 0), (4607182418800017408, 4611686018427387904), (0, 4611686018427387904)]
theorem sq9_laid (W : World) : Sl (W.alloc (.cells #[.float .f64 0, .float .f64 0, .float .f64 4611686018427387904, .float .f64 0, .float .f64 4611686018427387904, .float .f64 4611686018427387904, .float .f64 0, .float .f64 4611686018427387904] 24)) W.heap.size 0 4 (px sq9) (py sq9) := sl_pts (L := sq9) rfl (by simp [prRow, sq9, px, py, pt, List.range_succ])
theorem ot9_laid (W : World) : Sl (W.alloc (.cells #[.float .f64 4617315517961601024, .float .f64 0, .float .f64 4619567317775286272, .float .f64 0, .float .f64 4619567317775286272, .float .f64 4611686018427387904, .float .f64 4617315517961601024, .float .f64 4611686018427387904] 24)) W.heap.size 0 4 (px ot9) (py ot9) := sl_pts (L := ot9) rfl (by simp [prRow, ot9, px, py, pt, List.range_succ])
theorem lf9_laid (W : World) : Sl (W.alloc (.cells #[.float .f64 0, .float .f64 0, .float .f64 4607182418800017408, .float .f64 0, .float .f64 4607182418800017408, .float .f64 4611686018427387904, .float .f64 0, .float .f64 4611686018427387904] 24)) W.heap.size 0 4 (px lf9) (py lf9) := sl_pts (L := lf9) rfl (by simp [prRow, lf9, px, py, pt, List.range_succ])
theorem sq9_lst : lst (px sq9) (py sq9) 4 = sq9 := by decide
theorem sq9_ok : Oks (px sq9) (py sq9) 4 := oks_of (L := sq9) (by decide)
theorem ot9_ok : Oks (px ot9) (py ot9) 4 := oks_of (L := ot9) (by decide)
theorem k9_far : farE (4607182418800017408, 0, 4607182418800017408) [(4613937818241073152, 4621256167635550208)] = 0 ∧ plV (4607182418800017408, 0, 4607182418800017408) (4613937818241073152, 4621256167635550208) = 4611686018427387904 := by decide +kernel
theorem k9_seg : farE (4607182418800017408, 0, 4607182418800017408) [(0, 0), (4616189618054758400, 4616189618054758400)] = 0 ∧ leK .f64 (frK (4607182418800017408, 0, 4607182418800017408) (0, 0)) 0 = true ∧ leK .f64 (frK (4607182418800017408, 0, 4607182418800017408) (4616189618054758400, 4616189618054758400)) 0 = false ∧ cuP (4607182418800017408, 0, 4607182418800017408) (0, 0) (4616189618054758400, 4616189618054758400) = (4607182418800017408, 4607182418800017408) := by decide +kernel
theorem k9_pol : pgE (4607182418800017408, 0, 4607182418800017408) (px sq9) (py sq9) 4 = 0 ∧ pgL (4607182418800017408, 0, 4607182418800017408) (px sq9) (py sq9) 4 = lf9 := by decide +kernel
theorem k9_chk : chkE (px sq9) (py sq9) 4 = 0 ∧ chkE (px ot9) (py ot9) 4 = 0 := by decide +kernel
theorem k9_sid : (sdP (px sq9) (py sq9) 4 1).2.2 = 4611686018427387904 := by decide +kernel
theorem k9_bot : bothL (px ot9) (py ot9) 4 (lst (px sq9) (py sq9) 4) 4 = [] := by decide +kernel
theorem k9_len : ∀ i, i < 4 → (bothL (px ot9) (py ot9) 4 (lst (px sq9) (py sq9) 4) i).length ≤ 400 := fun i hi => Nat.le_trans (both_len _ _ _ _ i) (by rw [lst_len]; rcases (show i = 0 ∨ i = 1 ∨ i = 2 ∨ i = 3 by omega) with rfl | rfl | rfl | rfl <;> decide)
theorem k9_pl : pE (4607182418800017408, 4607182418800017408, 0) = 90 := by decide +kernel
theorem ris9 (a b : Nat) (w : World) (h1 : smK .f64 a b = true) : Calls Try.prog 82 #[.float .f64 a, .float .f64 b] w fun e w' => e = .returned (.bool true) ∧ Bel w w' := by
  have h := rIs_any a b w
  rw [h1] at h
  exact h.mono fun e w' q => ⟨q.1, by rw [q.2]; exact bl_refl _⟩
theorem NewS.none {base : Nat} {w : World} {v : Value} (h : NewS base w v []) : ([] : List Pt) = [] ∧ v = .slice none 0 0 := by
  rcases h with ⟨_, h⟩ | ⟨h0, _⟩
  · exact ⟨rfl, h⟩
  · exact absurd h0 (by decide)
theorem square9 (w : World) : Calls Try.prog 44 #[] w fun e w' => ∃ b, e = .returned (.slice (some ⟨b, 0, none⟩) 4 4) ∧ Sl w' b 0 4 (px sq9) (py sq9) ∧ Bel w w' := by
  go_enter Try.func44, Try.ntmps44
  go_wp2
  go_ret
  exact ⟨_, rfl, sq9_laid w, bl_alloc (bl_refl w) _ _⟩

end Go.Proofs.Ytpedpgpgcmhnoaa
