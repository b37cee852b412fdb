/-
  'tumblelaw14.GridLies' is true of all rows of boxes.
-/
import Derived.Test.YtekhnolpgoejdabRows
import Derived.Test.YtekhnolpgoejdabGx
import Derived.Test.YtekhnolpgoejdabGpt
import Derived.WalkKit
import Derived.ProofKit
import Derived.OpenShut
import Derived.WalkLawsBesides
import Derived.WalkSpells
import Derived.Lib.SmallJoins
import Derived.Laws.Cover2
import Derived.Laws.AppendOwn
import Derived.Laws.OwnMore
import Derived.Laws.AppendOwnNone
import Derived.Deep.RegionHeld3
import Derived.Deep.RegionWith
import Derived.Deep.SlicePairs
import Derived.Deep.Strs
import Derived.SizedLaws
import Derived.Below
import Derived.Deep.DeepCutAuto
import Derived.Laws.StructEq
namespace Go.Proofs.Ytekhnolpgoejdab.gridLies
open Go.ChangeShapes Go.WideShapes Go.ChangeAt Go.RowKit Go.Joins Go.Sort
set_option linter.unusedVariables false
set_option linter.unusedSimpArgs false

theorem own : ownKnob Try.prog.godebug = none := by kernel_rfl
theorem laidOut : laidOutB Try.prog = true := by kernel_rfl
theorem wf_f64 {x : Nat} (h : (Lit.float .f64 x).wf = true) : okK .f64 x := by
  rw [okK64]; simpa [Lit.wf] using h
theorem trod_fl {H : Type} {enc : TypeId × Value → H} {P : Program} {w : World} {base fuel : Nat} {spare : Nat → Bool} {held : Bool} {t : TypeId} {cs : List Value} {x : DataW H × List MemPlace} {k : FloatKind} (ht : P.underlying t = some (.float k)) (h : DataW.trod enc P w base spare held fuel t cs = some x) : ∃ z, cs = [.float k z] ∧ x = (.lit (.float k z), []) ∧ (Lit.float k z).wf = true := by
  cases fuel with
  | zero => simp [DataW.trod] at h
  | succ n =>
    unfold DataW.trod at h
    rw [ht] at h
    split at h <;> simp_all

theorem cellsV : Try.prog.cellsOf 33 = 2 := by kernel_rfl
theorem cellsM : Try.prog.cellsOf 35 = 4 := by kernel_rfl
theorem cellsF : Try.prog.cellsOf 23 = 1 := by kernel_rfl

def f4 (x y u v : Nat) : Nat → Nat
  | 0 => x
  | 1 => y
  | 2 => u
  | _ => v
theorem new_f4 (x y u v : Nat) (W : World) (t : TypeId) : ∀ j, j < 4 → (W.alloc (.cells #[.float .f64 x, .float .f64 y, .float .f64 u, .float .f64 v] t)).cell? ⟨W.heap.size, j, none⟩ = some (.float .f64 (f4 x y u v j)) := by
  intro j hj
  rcases (show j = 0 ∨ j = 1 ∨ j = 2 ∨ j = 3 by omega) with rfl | rfl | rfl | rfl
  all_goals (rw [World.cell?_alloc_new]; rfl)
theorem gc_zero {x y d : Nat} (h : gcE x y d = 0) : withinK .f64 x 4787326403894837248 = true ∧ withinK .f64 y 4787326403894837248 = true ∧ mayW d = true ∧ withinK .f64 (flK (Dv .quo x d)) 4845873199050653696 = true ∧ withinK .f64 (flK (Dv .quo y d)) 4845873199050653696 = true := by
  unfold gcE at h
  split at h
  · split at h
    · split at h
      · split at h
        · split at h
          · exact ⟨by assumption, by assumption, by assumption, by assumption, by assumption⟩
          · exact absurd h (by decide)
        · exact absurd h (by decide)
      · exact absurd h (by decide)
    · exact absurd h (by decide)
  · exact absurd h (by decide)
theorem fine_snoc {x y u v t z : Nat} (h : Hid (∀ j, j < t → Fine (f4 x y u v j))) (e : Hid (f4 x y u v t = z)) (f : Hid (Fine z)) : Hid (∀ j, j < t + 1 → Fine (f4 x y u v j)) := by
  refine hide ?_
  intro j hj
  by_cases h' : j < t
  · exact h.out j h'
  · have : j = t := by omega
    subst this
    rw [e.out]; exact f.out
set_option maxRecDepth 100000 in
set_option maxHeartbeats 16000000 in
theorem walk_any (x y : Nat) (ox : okK .f64 x) (oy : okK .f64 y) (u v : Nat) (ou : okK .f64 u) (ov : okK .f64 v) (i : Int) (wi : (Lit.int .i64 i).wf = true) (w : World) :
    Calls Try.prog 4 #[.agg #[.float .f64 x, .float .f64 y], .agg #[.float .f64 u, .float .f64 v], .int .i64 i] w fun e w' => e = .returned (.bool true) ∧ Below w.heap.size w w' := by
  have B1 := bl_alloc (bl_refl w) #[.float .f64 x, .float .f64 y] 33
  have B2 := bl_alloc (bl_refl (w.alloc (.cells #[.float .f64 x, .float .f64 y] 33))) #[.float .f64 u, .float .f64 v] 33
  have B0 : Below w.heap.size w ((w.alloc (.cells #[.float .f64 x, .float .f64 y] 33)).alloc (.cells #[.float .f64 u, .float .f64 v] 33)) := (bl_trans B1 B2).1
  have sz : (w.alloc (.cells #[.float .f64 x, .float .f64 y] 33)).heap.size = w.heap.size + 1 := World.size_alloc _ _
  have k0 : ((w.alloc (.cells #[.float .f64 x, .float .f64 y] 33)).alloc (.cells #[.float .f64 u, .float .f64 v] 33)).cell? ⟨w.heap.size, 0, none⟩ = some (.float .f64 x) := keepB B2 (by rw [World.cell?_alloc_new]; rfl)
  have k1 : ((w.alloc (.cells #[.float .f64 x, .float .f64 y] 33)).alloc (.cells #[.float .f64 u, .float .f64 v] 33)).cell? ⟨w.heap.size, 1, none⟩ = some (.float .f64 y) := keepB B2 (by rw [World.cell?_alloc_new]; rfl)
  have m0 : ((w.alloc (.cells #[.float .f64 x, .float .f64 y] 33)).alloc (.cells #[.float .f64 u, .float .f64 v] 33)).cell? ⟨w.heap.size + 1, 0, none⟩ = some (.float .f64 u) := by rw [← sz, World.cell?_alloc_new]; rfl
  have m1 : ((w.alloc (.cells #[.float .f64 x, .float .f64 y] 33)).alloc (.cells #[.float .f64 u, .float .f64 v] 33)).cell? ⟨w.heap.size + 1, 1, none⟩ = some (.float .f64 v) := by rw [← sz, World.cell?_alloc_new]; rfl
  have hl := World.block_lt_of_cell? _ _ k0
  have hm := World.block_lt_of_cell? _ _ m0
  clear B1 B2 sz
  obtain ⟨k, hK, hKn⟩ := at_in i 71 (by omega)
  obtain ⟨h1, h2⟩ := tmod_in i 71 (by omega)
  rw [show ((71 : Nat) : Int) = 71 from rfl] at hK h1 h2
  have hk : k ≤ 70 := by omega
  have ew1 : IntKind.wrap .i64 (Int.tmod i 71) = Int.tmod i 71 := by rw [IntKind.wrap_i64]; omega
  have ew2 : IntKind.wrap .i64 (Int.tmod i 71 + 71) = Int.tmod i 71 + 71 := by rw [IntKind.wrap_i64]; omega
  have ew3 : IntKind.wrap .i64 (k : Int) = (k : Int) := by rw [IntKind.wrap_i64]; omega
  have ew4 : IntKind.wrap .i64 ((k : Int) - 30) = (k : Int) - 30 := by rw [IntKind.wrap_i64]; omega
  have LD : ∀ W, Calls Try.prog 11 #[.float .f64 4607182418800017408, .int .i64 ((k : Int) - 30)] W fun e w' => e = .returned (.float .f64 (wdW k)) ∧ w' = W := fun W => by rw [← wd_pw]; exact ldexp_one _ (by omega) (by omega) W
  clear h1 h2
  have hc := fun W => cell14_s x y (wdW k) W
  have hq := fun W => cell14_s u v (wdW k) W
  have c1 := cmp_ne .f64
  have c2 := cmp_lt .f64
  have c3 := cmp_gt .f64
  have c4 := cmp_ge .f64
  have c5 := cmp_le .f64
  have c6 : ∀ x y : Nat, (ltK .f64 y x || FloatKind.f64.format.order x y == some .eq) = leK .f64 y x := fun x y => by rw [← cmp_gt]; exact cmp_ge .f64 x y
  have c7 : ∀ x y : Nat, (ltK .f64 x y || FloatKind.f64.format.order x y == some .eq) = leK .f64 x y := fun x y => by rw [← cmp_lt]; exact cmp_le .f64 x y
  go_enter Try.func4, Try.ntmps4
  go_wp2_with (first | (go_at_call 6; (with_reducible refine (alive14_s _).mono ?_); rintro e w1 ⟨rfl, hb1⟩; replace B0 := bw_trans B0 hb1; replace k0 := below_get hb1 hl k0; replace k1 := below_get hb1 hl k1; replace m0 := below_get hb1 hm m0; replace m1 := below_get hb1 hm m1; clear hb1 hl hm) | (go_at_call 11; (with_reducible refine (LD _).mono ?_); rintro e w' ⟨rfl, hw⟩; rw [hw]; clear hw))
  go_loopg [36] 4 (fun kx s36 wr => ∃ t : Nat, s36 = .int .i64 t ∧ t ≤ 4 ∧ 4 - t ≤ kx ∧ Hid (∀ j, j < t → Fine (f4 x y u v j)) ∧ Hid (∀ j, j < 4 → wr.cell? ⟨w1.heap.size, j, none⟩ = some (.float .f64 (f4 x y u v j))) ∧ Bel w1 wr)
  case atStart => exact ⟨0, rfl, by omega, by omega, fun j h => absurd h (by omega), new_f4 x y u v w1 _, bl_alloc (bl_refl w1) _ _⟩
  case round =>
    obtain ⟨t, rfl, ht, htx, hF, hG, hW⟩ := hrel
    by_cases hlt : t < 4
    · have hltz : (t : Int) < 4 := by omega
      have hwk : IntKind.wrap .i64 ((t : Int) + 1) = (t : Int) + 1 := by rw [IntKind.wrap_i64]; omega
      have x0 := hG.out t hlt
      have oz : okK .f64 (f4 x y u v t) := by
        rcases (show t = 0 ∨ t = 1 ∨ t = 2 ∨ t = 3 by omega) with rfl | rfl | rfl | rfl
        · exact ox
        · exact oy
        · exact ou
        · exact ov
      obtain ⟨z, hz⟩ : ∃ z, f4 x y u v t = z := ⟨_, rfl⟩
      rw [hz] at x0 oz
      have hz := hide hz
      cases he : eqK .f64 z 0
      · cases hl : ltK .f64 (rgK .f64 z) 553942754166571008
        · have hfz : Hid (Fine z) := hide (.inr hl)
          go_wp2_with (first | (go_at_call 12; (with_reducible refine (abs_any _ _ (by assumption)).mono ?_); rintro e w' ⟨rfl, hw⟩; rw [hw]; clear hw))
          go_roundg (4 - (t + 1))
          case measure => omega
          case rel => exact ⟨t + 1, by go_num, by omega, Nat.le_refl _, fine_snoc hF hz hfz, hG, hW⟩
        · go_wp2_with (first | (go_at_call 12; (with_reducible refine (abs_any _ _ (by assumption)).mono ?_); rintro e w' ⟨rfl, hw⟩; rw [hw]; clear hw))
          go_ret
          exact ⟨by first | rfl | simp, bw_trans B0 hW.1⟩
      · have hfz : Hid (Fine z) := hide (.inl he)
        go_wp2_with (first | (go_at_call 12; (with_reducible refine (abs_any _ _ (by assumption)).mono ?_); rintro e w' ⟨rfl, hw⟩; rw [hw]; clear hw))
        go_roundg (4 - (t + 1))
        case measure => omega
        case rel => exact ⟨t + 1, by go_num, by omega, Nat.le_refl _, fine_snoc hF hz hfz, hG, hW⟩
    · have hltz : ¬ (t : Int) < 4 := by omega
      have F0 : Fine x := hF.out 0 (by omega)
      have F1 : Fine y := hF.out 1 (by omega)
      have F2 : Fine u := hF.out 2 (by omega)
      have F3 : Fine v := hF.out 3 (by omega)
      replace k0 := keepB hW k0
      replace k1 := keepB hW k1
      replace m0 := keepB hW m0
      replace m1 := keepB hW m1
      replace B0 := bw_trans B0 hW.1
      by_cases hE : gcE x y (wdW k) = 0
      · obtain ⟨wx, wy, _, px, py⟩ := gc_zero hE
        have e1 : gcX x y (wdW k) = coK x (wdW k) := by unfold gcX; rw [if_pos hE]
        have e2 : gcY x y (wdW k) = coK y (wdW k) := by unfold gcY; rw [if_pos hE]
        obtain ⟨r1, r2, a1, a2, a3, a4, a5⟩ := lies_one (within_fin wx) hk F0 px
        obtain ⟨s1, s2, b1, b2, b3, b4, b5⟩ := lies_one (within_fin wy) hk F1 py
        have cv : ∀ c : Int, floatOfInt .f64 c = fZ c := fun _ => rfl
        have hN : gcE u v (wdW k) = 0 → gcX u v (wdW k) = coK x (wdW k) → gcY u v (wdW k) = coK y (wdW k) → ∃ p q, floatBits .sub .f64 x u = some p ∧ okK .f64 p ∧ leK .f64 (rgK .f64 p) (wdW k) = true ∧ floatBits .sub .f64 y v = some q ∧ okK .f64 q ∧ leK .f64 (rgK .f64 q) (wdW k) = true := by
          intro hf ha hb
          obtain ⟨wu, wv, _, pu, pv⟩ := gc_zero hf
          unfold gcX at ha
          unfold gcY at hb
          rw [if_pos hf] at ha hb
          obtain ⟨p, p1, p2, p3⟩ := near_one (within_fin wx) (within_fin wu) ou hk F0 F2 px pu ha.symm
          obtain ⟨q, q1, q2, q3⟩ := near_one (within_fin wy) (within_fin wv) ov hk F1 F3 py pv hb.symm
          exact ⟨p, q, p1, p2, p3, q1, q2, q3⟩
        simp only [hE, e1, e2] at hc
        clear hE e1 e2 wx wy px py F0 F1 F2 F3
        generalize coK x (wdW k) = X at *
        generalize coK y (wdW k) = Y at *
        generalize gcX u v (wdW k) = a at hq hN
        generalize gcY u v (wdW k) = b at hq hN
        generalize gcE u v (wdW k) = f at hq hN
        obtain ⟨X1, hX1⟩ : ∃ z, z = X + 1 := ⟨_, rfl⟩
        obtain ⟨Y1, hY1⟩ : ∃ z, z = Y + 1 := ⟨_, rfl⟩
        have wX : IntKind.wrap .i64 (X + 1) = X1 := by rw [IntKind.wrap_i64]; omega
        have wY : IntKind.wrap .i64 (Y + 1) = Y1 := by rw [IntKind.wrap_i64]; omega
        have v1 := cv X
        have v2 := cv X1
        have v3 := cv Y
        have v4 := cv Y1
        clear cv
        rw [← hX1] at a3
        rw [← hY1] at b3
        clear hX1 hY1
        generalize fZ X = zx at v1 a1
        generalize fZ X1 = zx1 at v2 a3
        generalize fZ Y = zy at v3 b1
        generalize fZ Y1 = zy1 at v4 b3
        generalize wdW k = g at *
        have M1 : ∀ (t : TypeId) (W : World), (binOp .mul t (.float .f64 zx) (.float .f64 g)).run Try.prog W = .ok (.float .f64 r1) W := fun t W => by rw [run_mul]; unfold fv fd; rw [a1]; rfl
        have M2 : ∀ (t : TypeId) (W : World), (binOp .mul t (.float .f64 zx1) (.float .f64 g)).run Try.prog W = .ok (.float .f64 r2) W := fun t W => by rw [run_mul]; unfold fv fd; rw [a3]; rfl
        have M3 : ∀ (t : TypeId) (W : World), (binOp .mul t (.float .f64 zy) (.float .f64 g)).run Try.prog W = .ok (.float .f64 s1) W := fun t W => by rw [run_mul]; unfold fv fd; rw [b1]; rfl
        have M4 : ∀ (t : TypeId) (W : World), (binOp .mul t (.float .f64 zy1) (.float .f64 g)).run Try.prog W = .ok (.float .f64 s2) W := fun t W => by rw [run_mul]; unfold fv fd; rw [b3]; rfl
        have hD : (f = 0 ∧ a = X ∧ b = Y) ∨ (¬ f = 0) ∨ (f = 0 ∧ ¬ X = a) ∨ (f = 0 ∧ X = a ∧ ¬ Y = b) := by omega
        clear a1 a3 b1 b3
        have x5 : -9007199254740992 ≤ X ∧ X ≤ 9007199254740992 := by omega
        have y5 : -9007199254740992 ≤ Y ∧ Y ≤ 9007199254740992 := by omega
        clear a5 b5
        go_upto_region 15 with (first | (go_at_call 13; first | ((with_reducible refine (hc _).mono ?_); rintro e w2 ⟨rfl, hb2⟩; replace k0 := keepB hb2 k0; replace k1 := keepB hb2 k1; replace m0 := keepB hb2 m0; replace m1 := keepB hb2 m1) | ((with_reducible refine (hq _).mono ?_); rintro e w3 ⟨rfl, hb3⟩; replace k0 := keepB hb3 k0; replace k1 := keepB hb3 k1; replace m0 := keepB hb3 m0; replace m1 := keepB hb3 m1)))
        clear hc hq
        have K9 : Below w.heap.size w w3 := bw_trans (bw_trans B0 hb2.1) hb3.1
        clear hb2 hb3 B0 x5 y5 LD
        replace hN := hide hN
        replace hD := hide hD
        rcases a4 with ⟨a4, a6⟩ | ⟨a4, a6⟩ <;> rcases b4 with ⟨b4, b6⟩ | ⟨b4, b6⟩
        all_goals (first | ((have a7 : ¬ X < 9007199254740992 := by omega); clear a4) | skip)
        all_goals (first | ((have b7 : ¬ Y < 9007199254740992 := by omega); clear b4) | skip)
        skip
        all_goals (replace hD := hD.out)
        all_goals (replace hN := hN.out)
        all_goals rcases hD with ⟨rfl, rfl, rfl⟩ | hD | ⟨rfl, hD⟩ | ⟨rfl, rfl, hD⟩
        all_goals first
          | (obtain ⟨p, q, p1, p2, p3, q1, q2, q3⟩ := hN rfl rfl rfl
             clear hN
             have S1 : ∀ (t : TypeId) (W : World), (binOp .sub t (.float .f64 x) (.float .f64 u)).run Try.prog W = .ok (.float .f64 p) W := fun t W => by rw [run_sub]; unfold fv fd; rw [p1]; rfl
             have S2 : ∀ (t : TypeId) (W : World), (binOp .sub t (.float .f64 y) (.float .f64 v)).run Try.prog W = .ok (.float .f64 q) W := fun t W => by rw [run_sub]; unfold fv fd; rw [q1]; rfl
             clear p1 q1
             go_wp2_with (first | (go_at_call 12; (with_reducible refine (abs_any _ _ (by assumption)).mono ?_); rintro e w' ⟨rfl, hw⟩; rw [hw]; clear hw))
             go_ret
             exact ⟨by first | rfl | simp, K9⟩)
          | (clear hN
             go_wp2
             go_ret
             exact ⟨by first | rfl | simp, K9⟩)
      · have e1 : gcX x y (wdW k) = 0 := by unfold gcX; rw [if_neg hE]
        have e2 : gcY x y (wdW k) = 0 := by unfold gcY; rw [if_neg hE]
        simp only [e1, e2] at hc
        generalize gcE x y (wdW k) = c at hc hE
        generalize gcX u v (wdW k) = a at hq
        generalize gcY u v (wdW k) = b at hq
        generalize gcE u v (wdW k) = f at hq
        go_wp2_with (first | (go_at_call 13; first | ((with_reducible refine (hc _).mono ?_); rintro e w2 ⟨rfl, hb2⟩; replace k0 := keepB hb2 k0; replace k1 := keepB hb2 k1; replace m0 := keepB hb2 m0; replace m1 := keepB hb2 m1) | ((with_reducible refine (hq _).mono ?_); rintro e w3 ⟨rfl, hb3⟩; replace k0 := keepB hb3 k0; replace k1 := keepB hb3 k1; replace m0 := keepB hb3 m0; replace m1 := keepB hb3 m1)))
        go_ret
        exact ⟨by first | rfl | simp, bw_trans (bw_trans B0 hb2.1) hb3.1⟩

/-- a row of boxes: none, or len of them in cells, with room for cap -/
def IsBoxes (w : World) (a : Option Addr) (len cap : Nat) : Prop :=
  (a = none ∧ len = 0 ∧ cap = 0) ∨ ∃ (x : Addr) (B : Nat → Bo), a = some x ∧ len ≤ cap ∧ cap ≤ maxLen ∧ len * 32 ≤ 140737488351232 ∧ ∀ i, i < len → w.cell? (x.add (i * 4)) = some (.float .f64 (B i).1) ∧ w.cell? (x.add (i * 4 + 1)) = some (.float .f64 (B i).2.1) ∧ w.cell? (x.add (i * 4 + 2)) = some (.float .f64 (B i).2.2.1) ∧ w.cell? (x.add (i * 4 + 3)) = some (.float .f64 (B i).2.2.2) ∧ okK .f64 (B i).1 ∧ okK .f64 (B i).2.1 ∧ okK .f64 (B i).2.2.1 ∧ okK .f64 (B i).2.2.2
theorem any_of {w : World} {a : Option Addr} {len cap : Nat} (h : IsBoxes w a len cap) : ∃ B, AnyB w a len B ∧ len * 32 ≤ 140737488351232 ∧ ∀ i, i < len → okK .f64 (B i).1 ∧ okK .f64 (B i).2.1 ∧ okK .f64 (B i).2.2.1 ∧ okK .f64 (B i).2.2.2 := by
  rcases h with ⟨rfl, rfl, rfl⟩ | ⟨x, B, rfl, hl, hm, hr, hcell⟩
  · exact ⟨fun _ => (0, 0, 0, 0), .inl rfl, by omega, fun i hi => by omega⟩
  · refine ⟨B, ?_, hr, fun i hi => (hcell i hi).2.2.2.2⟩
    rcases Nat.eq_zero_or_pos len with h0 | h0
    · exact .inl h0
    · right
      obtain ⟨b, off, spot⟩ := x
      have hspot : spot = none := by simpa [Addr.add] using World.cell?_spot (hcell 0 h0).1
      subst hspot
      have hc0 := (hcell 0 h0).1
      rw [add_plain] at hc0
      refine ⟨b, off, rfl, fun i hi => ?_, World.block_lt_of_cell? _ _ hc0⟩
      obtain ⟨h1, h2, h3, h4, _⟩ := hcell i hi
      rw [add_plain] at h1 h2 h3 h4
      rw [← Nat.add_assoc] at h2 h3 h4
      exact ⟨h1, h2, h3, h4⟩
theorem walk (x0 y0 : Nat) (ox0 : okK .f64 x0) (oy0 : okK .f64 y0) (x1 y1 : Nat) (ox1 : okK .f64 x1) (oy1 : okK .f64 y1) (i2 : Int) (wi2 : (Lit.int .i64 i2).wf = true) (w : World)  :
    Calls Try.prog 4 #[.agg #[.float .f64 x0, .float .f64 y0], .agg #[.float .f64 x1, .float .f64 y1], .int .i64 i2] w fun e w' => e = .returned (.bool true) ∧ Below w.heap.size w w' := by
  exact walk_any x0 y0 ox0 oy0 x1 y1 ox1 oy1 i2 wi2 w 

set_option maxRecDepth 100000 in
theorem lifted (os : Os) (started : os.Started) (H : Type) (enc : TypeId × Value → H) :
    ReturnsInHanded {} Try.checked os 4 .any (Rows.gridLiesSpec.pre6 enc Try.prog Try.f4 Rows.gridLiesRow.domain false) (Rows.gridLiesSpec.post enc Try.prog Try.f4 false true false false) := by
  refine returnsInHanded_of_change_sized (C := Try.checked) own started (by kernel_rfl) Try.func4
    (ChangeSpec.witness6 (enc := enc) (C := Try.checked) false ⟨#[], #[.agg #[.float .f64 0, .float .f64 0], .agg #[.float .f64 0, .float .f64 0], .int .i64 0], []⟩ 8 (by kernel_rfl) (by kernel_rfl) (by kernel_rfl) (by kernel_rfl)) ?_
  intro W base args ds gs before hval0 hW hcnd hsz0 _
  have hsz : (DataW.weightsEach Try.prog (Try.f4.params.toList ++ Rows.gridLiesSpec.plain.varTypes Try.prog) (ds ++ gs)).all (· ≤ reachBytes) = true := hsz0
  have hval : ∀ (j : Nat) t v, Try.f4.params[j]? = some t → args[j]? = some v → Value.okWide Try.prog W .any base t v := hval0
  have hW' := hW
  obtain ⟨p, q, hA0, hV, rfl, hfz, hnd⟩ := hW
  have hA : DataW.TrodAll enc Try.prog W 0 (fun _ => true) true Try.f4.params.toList args.toList ds p := hA0
  rw [Try.params4] at hA hval hsz
  obtain ⟨v0, vs0, d0, ds0, p0, q0, hargs, rfl, rfl, h0, r0⟩ := trodAll_cons hA
  obtain ⟨v1, vs1, d1, ds1, p1, q1, rfl, rfl, rfl, h1, r1⟩ := trodAll_cons r0
  obtain ⟨v2, vs2, d2, ds2, p2, q2, rfl, rfl, rfl, h2, r2⟩ := trodAll_cons r1
  obtain ⟨rfl, rfl, rfl⟩ := trodAll_nil r2
  obtain rfl : args = #[v0, v1, v2] := by cases args; simp_all
  obtain ⟨rfl, rfl⟩ := trodVars_none hV
  obtain ⟨c0, k0, z0, u0, m0, rfl, rfl, rfl, hz0, hu0⟩ := open_agg2 Try.underlying33 (by kernel_rfl) cellsV (hval 0 33 v0 rfl rfl) h0
  obtain ⟨x0, e0, rfl, wx0⟩ := trod_fl Try.underlying23 hz0
  obtain ⟨y0, e1, rfl, wy0⟩ := trod_fl Try.underlying23 hu0
  simp at e0 e1
  subst e0 e1
  obtain ⟨c1, k1, z1, u1, m1, rfl, rfl, rfl, hz1, hu1⟩ := open_agg2 Try.underlying33 (by kernel_rfl) cellsV (hval 1 33 v1 rfl rfl) h1
  obtain ⟨x1, e0, rfl, wx1⟩ := trod_fl Try.underlying23 hz1
  obtain ⟨y1, e1, rfl, wy1⟩ := trod_fl Try.underlying23 hu1
  simp at e0 e1
  subst e0 e1
  obtain ⟨i2, rfl, rfl, rfl, wi2⟩ := open_int Try.underlying3 (hval 2 3 v2 rfl rfl) h2
  clear hA0 hval0 hsz0
  refine (walk x0 y0 (wf_f64 wx0) (wf_f64 wy0) x1 y1 (wf_f64 wx1) (wf_f64 wy1) i2 wi2 W ).mono fun e W' ⟨he, bel0⟩ => ?_
  have bel := bel0
  subst he
  exact ⟨_, rfl, _, _, _, [], _, [], hW', trodAll_mk1 (shut_bool Try.underlying4 _), (trodAll_cons_mk (shut_agg2 (y0 := (.lit (.float .f64 x0), [])) (y1 := (.lit (.float .f64 y0), [])) Try.underlying33 (by kernel_rfl) cellsV ⟨1, by simp [DataW.trod, show Try.checked.prog.underlying 23 = some (.float .f64) from Try.underlying23, wx0]⟩ ⟨1, by simp [DataW.trod, show Try.checked.prog.underlying 23 = some (.float .f64) from Try.underlying23, wy0]⟩) (trodAll_cons_mk (shut_agg2 (y0 := (.lit (.float .f64 x1), [])) (y1 := (.lit (.float .f64 y1), [])) Try.underlying33 (by kernel_rfl) cellsV ⟨1, by simp [DataW.trod, show Try.checked.prog.underlying 23 = some (.float .f64) from Try.underlying23, wx1]⟩ ⟨1, by simp [DataW.trod, show Try.checked.prog.underlying 23 = some (.float .f64) from Try.underlying23, wy1]⟩) (trodAll_cons_mk (shut_int Try.underlying3 wi2) trodAll_mk0))), rfl, bel.frame _, fun h => by cases h⟩

theorem over : Rows.gridLiesRow.holds Try.pinned (OpenSpec.ofChange Rows.gridLiesSpec) :=
  OpenClaim.holds_of_wide 4 Try.f4 rfl rfl rfl rfl rfl rfl rfl ⟨rfl, rfl, rfl, rfl, rfl⟩ rfl rfl rfl rfl rfl (by kernel_rfl) Try.func4 (by kernel_rfl)
    (of_decide_eq_true (by kernel_rfl)) (by unfold Func.isWrapper; first | (rw [if_pos (by decide +kernel)]; kernel_rfl) | (rw [if_neg (by decide +kernel)]; exact ⟨rfl, rfl⟩))
    (fun os started H enc _ => lifted os started H enc)

theorem proved : Rows.GridLiesSaid :=
  over
#print axioms proved
end Go.Proofs.Ytekhnolpgoejdab.gridLies
