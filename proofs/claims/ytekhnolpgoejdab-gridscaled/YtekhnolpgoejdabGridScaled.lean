/-
  'tumblelaw14.GridScaled' is true of all rows of boxes.
-/
import Derived.Test.YtekhnolpgoejdabRows
import Derived.Test.YtekhnolpgoejdabGx
import Derived.Test.YtekhnolpgoejdabGsc
import Derived.Test.YtekhnolpgoejdabGpt
import Derived.Test.YtekhnolpgoejdabOnc8
import Derived.WalkKit
import Derived.ProofKit
import Derived.OpenShut
import Derived.WalkLawsBesides
import Derived.WalkSpells
import Derived.Lib.SmallJoins
import Derived.Laws.Cover2
import Derived.Laws.AppendOwn
import Derived.Laws.OwnMore
import Derived.Laws.AppendOwnNone
import Derived.Deep.RegionHeld3
import Derived.Deep.RegionWith
import Derived.Deep.SlicePairs
import Derived.Deep.Strs
import Derived.SizedLaws
import Derived.Below
import Derived.Deep.DeepCutAuto
import Derived.Laws.StructEq
namespace Go.Proofs.Ytekhnolpgoejdab.gridScaled
open Go.ChangeShapes Go.WideShapes Go.ChangeAt Go.RowKit Go.Joins Go.Sort
set_option linter.unusedVariables false
set_option linter.unusedSimpArgs false

theorem own : ownKnob Try.prog.godebug = none := by kernel_rfl
theorem laidOut : laidOutB Try.prog = true := by kernel_rfl
theorem wf_f64 {x : Nat} (h : (Lit.float .f64 x).wf = true) : okK .f64 x := by
  rw [okK64]; simpa [Lit.wf] using h
theorem trod_fl {H : Type} {enc : TypeId × Value → H} {P : Program} {w : World} {base fuel : Nat} {spare : Nat → Bool} {held : Bool} {t : TypeId} {cs : List Value} {x : DataW H × List MemPlace} {k : FloatKind} (ht : P.underlying t = some (.float k)) (h : DataW.trod enc P w base spare held fuel t cs = some x) : ∃ z, cs = [.float k z] ∧ x = (.lit (.float k z), []) ∧ (Lit.float k z).wf = true := by
  cases fuel with
  | zero => simp [DataW.trod] at h
  | succ n =>
    unfold DataW.trod at h
    rw [ht] at h
    split at h <;> simp_all

theorem cellsV : Try.prog.cellsOf 33 = 2 := by kernel_rfl
theorem cellsM : Try.prog.cellsOf 35 = 4 := by kernel_rfl
theorem cellsF : Try.prog.cellsOf 23 = 1 := by kernel_rfl
def f4 (x y u v : Nat) : Nat → Nat
  | 0 => x
  | 1 => y
  | 2 => u
  | _ => v
theorem new_f4 (x y u v : Nat) (W : World) (t : TypeId) : ∀ j, j < 4 → (W.alloc (.cells #[.float .f64 x, .float .f64 y, .float .f64 u, .float .f64 v] t)).cell? ⟨W.heap.size, j, none⟩ = some (.float .f64 (f4 x y u v j)) := by
  intro j hj
  rcases (show j = 0 ∨ j = 1 ∨ j = 2 ∨ j = 3 by omega) with rfl | rfl | rfl | rfl
  all_goals (rw [World.cell?_alloc_new]; rfl)

def scB (s : Nat) (b : Bo) : Bo := (Dv .mul b.1 s, Dv .mul b.2.1 s, Dv .mul b.2.2.1 s, Dv .mul b.2.2.2 s)
theorem bRow_snoc (B : Nat → Bo) (t : Nat) : bRow B (t + 1) = bRow B t ++ [.float .f64 (B t).1, .float .f64 (B t).2.1, .float .f64 (B t).2.2.1, .float .f64 (B t).2.2.2] := by
  unfold bRow
  rw [show (t + 1) * 4 = t * 4 + 1 + 1 + 1 + 1 by omega]
  simp only [List.range_succ, List.map_append, List.map_cons, List.map_nil, List.append_assoc, List.cons_append, List.nil_append]
  rw [show t * 4 / 4 = t by omega, show t * 4 % 4 = 0 by omega, show (t * 4 + 1) / 4 = t by omega, show (t * 4 + 1) % 4 = 1 by omega, show (t * 4 + 1 + 1) / 4 = t by omega, show (t * 4 + 1 + 1) % 4 = 2 by omega, show (t * 4 + 1 + 1 + 1) / 4 = t by omega, show (t * 4 + 1 + 1 + 1) % 4 = 3 by omega]
  rfl
theorem own_any4 {base : Nat} {w : World} {sm : Option Addr} {n cm : Nat} {B : Nat → Bo} (h : OwnR 4 base w (.slice sm n cm) n (bRow B n)) : AnyB w sm n B := by
  rcases h.2 with ⟨e1, e2⟩ | ⟨g, cp, e, h1, h2, h3, h4, _⟩
  · exact .inl e2
  · injection e with e1 e2 e3
    subst e1
    rcases Nat.eq_zero_or_pos n with h0 | h0
    · exact .inl h0
    · have hB := rw_bs (b := g) (off := 0) (n := n) (B := B) (w := w) h4
      exact .inr ⟨g, 0, rfl, hB, World.block_lt_of_cell? _ _ (hB 0 h0).1⟩
theorem prb_of {n s : Nat} {b : Bo} (hs : Sc 100 (92 + n) oneB s) (rs : Rg 974 1174 s) (fs : finK .f64 s = true) (o : okK .f64 b.1 ∧ okK .f64 b.2.1 ∧ okK .f64 b.2.2.1 ∧ okK .f64 b.2.2.2) (p : ∀ j, j < 4 → plB (f4 b.1 b.2.1 b.2.2.1 b.2.2.2 j) = true) : PrB (92 + n) b (scB s b) := by
  have h : ∀ {x : Nat}, okK .f64 x → plB x = true → Pr (92 + n) x (Dv .mul x s) := fun ox px => pr_of hs rs ox px (dv_res (some_mul (plain_rg ox px).1 fs))
  exact ⟨h o.1 (p 0 (by decide)), h o.2.1 (p 1 (by decide)), h o.2.2.1 (p 2 (by decide)), h o.2.2.2 (p 3 (by decide))⟩
theorem scale_at {x y s : Nat} (fx : finK .f64 x = true) (fy : finK .f64 y = true) (fs : finK .f64 s = true) (w : World) : Calls Try.prog 14 #[.agg #[.float .f64 x, .float .f64 y], .float .f64 s] w fun e w' => e = .returned (.agg #[.float .f64 (Dv .mul x s), .float .f64 (Dv .mul y s)]) ∧ Bel w w' := by
  refine (vScale_any x y s w).mono ?_
  rintro e w' ⟨a, b, h, rfl, hb⟩
  rw [res_dv h.1 (some_mul fx fs), res_dv h.2 (some_mul fy fs)]
  exact ⟨rfl, hb⟩
def NonP (B : Nat → Bo) (n : Nat) (c : Bool) : Prop := c = false → ∃ j, j < n ∧ mayO (B j) = true
theorem gw_num (M : Nat → Bo) {n : Nat} (hn : n ≤ 200) : nanK .f64 (gwW M n) = false := by
  unfold gwW
  rw [if_neg (by omega)]
  unfold midW
  split
  · exact (wd_num (lw_spec _ (Nat.le_refl 70)).2.1).1
  · decide +kernel
theorem pl_snoc {x y u v t z : Nat} (h : Hid (∀ j, j < t → plB (f4 x y u v j) = true)) (e : Hid (f4 x y u v t = z)) (f : Hid (plB z = true)) : Hid (∀ j, j < t + 1 → plB (f4 x y u v j) = true) := by
  refine hide ?_
  intro j hj
  by_cases h' : j < t
  · exact h.out j h'
  · have : j = t := by omega
    subst this
    rw [e.out]; exact f.out
theorem own_step {base : Nat} {w : World} {v : Value} {sF t : Nat} {B : Nat → Bo} (h : OwnR 4 base w v (t + 1) (bRow (fun j => scB sF (B j)) t ++ [.float .f64 (Dv .mul (B t).1 sF), .float .f64 (Dv .mul (B t).2.1 sF), .float .f64 (Dv .mul (B t).2.2.1 sF), .float .f64 (Dv .mul (B t).2.2.2 sF)])) : OwnR 4 base w v (t + 1) (bRow (fun j => scB sF (B j)) (t + 1)) := by
  rw [bRow_snoc]; exact h

set_option maxRecDepth 100000 in
set_option maxHeartbeats 32000000 in
theorem walk_any (sa : Option Addr) (n cap : Nat) (B : Nat → Bo) (i : Int) (wi : (Lit.int .i64 i).wf = true) (w : World) (hA : AnyB w sa n B) (hr : n * 32 ≤ 140737488351232) (ho : ∀ i, i < n → okK .f64 (B i).1 ∧ okK .f64 (B i).2.1 ∧ okK .f64 (B i).2.2.1 ∧ okK .f64 (B i).2.2.2) :
    Calls Try.prog 5 #[.slice sa n cap, .int .i64 i] w fun e w' => e = .returned (.bool true) ∧ Below w.heap.size w w' := by
  clear hr
  have c0 := cmp_ne .f64
  have c1 := cmp_eq .f64
  have c2 := cmp_lt .f64
  have c3 := cmp_gt .f64
  have c4 := cmp_le2 .f64
  have c5 := cmp_ge2 .f64
  have c6 := eqK_nought .f64
  by_cases hn : n ≤ 200
  · have hnz : ¬ (200 : Int) < (n : Int) := by omega
    obtain ⟨h1, h2⟩ := tmod_in i 9 (by omega)
    rw [show ((9 : Nat) : Int) = 9 from rfl] at h1 h2
    obtain ⟨k, hk8, hke⟩ : ∃ k : Nat, k ≤ 16 ∧ Int.tmod i 9 = (k : Int) - 8 := ⟨(Int.tmod i 9 + 8).toNat, by omega, by omega⟩
    have ew1 : IntKind.wrap .i64 (Int.tmod i 9) = Int.tmod i 9 := by rw [IntKind.wrap_i64]; omega
    have LD : ∀ W, Calls Try.prog 11 #[.float .f64 4607182418800017408, .int .i64 (Int.tmod i 9)] W fun e w' => e = .returned (.float .f64 (pw ((k : Int) - 8))) ∧ w' = W := fun W => by rw [hke]; exact ldexp_one _ (by omega) (by omega) W
    obtain ⟨hs, rs, fs, os⟩ := pw_sc8 hk8
    have HGW : Hid (∀ M : Nat → Bo, (∀ j, j < n → PrB (92 + k) (B j) (M j)) → (∀ i, i < n → mayO (B i) = false) ∨ gwW B n = wdW 0 ∨ gwW B n = wdW 70 ∨ gwW M n = wdW 0 ∨ gwW M n = wdW 70 ∨ floatBits .mul .f64 (gwW B n) (pw ((k : Int) - 8)) = some (gwW M n)) := hide fun M h => gw_scaled hk8 hn h
    generalize pw ((k : Int) - 8) = sF at *
    clear h1 h2 hke
    go_enter Try.func5, Try.ntmps5
    go_upto_region 7 with (first | (go_at_call 6; (with_reducible refine (alive14_s _).mono ?_); rintro e w0 ⟨rfl, hb0⟩; have hA0 := hA.below hb0) | (go_at_call 11; (with_reducible refine (LD _).mono ?_); rintro e w' ⟨rfl, hw⟩; rw [hw]; clear hw))
    go_wp2
    go_loopg [7, 8] n (fun kx s7 s8 wr => ∃ t : Nat, s8 = .int .i64 t ∧ t ≤ n ∧ n - t ≤ kx ∧ OwnR 4 w0.heap.size wr s7 t (bRow (fun j => scB sF (B j)) t) ∧ Bel w0 wr ∧ Hid (∀ j, j < t → PrB (92 + k) (B j) (scB sF (B j))))
    case atStart => exact ⟨0, rfl, by omega, by omega, OwnR.nil _ _ _, bl_refl _, hide (fun j h => absurd h (by omega))⟩
    case round =>
      obtain ⟨t, rfl, htn, hkx, hO, hW, HP⟩ := hrel
      obtain ⟨sm, cm, hvm⟩ := own_len14 hO
      subst hvm
      by_cases hlt : t < n
      · have hltz : (t : Int) < (n : Int) := by omega
        have hwk : IntKind.wrap .i64 ((t : Int) + 1) = (t : Int) + 1 := by rw [IntKind.wrap_i64]; omega
        obtain ⟨b, off, hsa, hB0, hbl⟩ : ∃ b off, sa = some ⟨b, off, none⟩ ∧ Bs w0 b off n B ∧ b < w0.heap.size := by
          rcases hA0 with h0 | h0
          · omega
          · exact h0
        clear hA hA0
        subst hsa
        have hB := hB0.bel hW
        obtain ⟨wo, hwo⟩ : ∃ X, X = wr := ⟨_, rfl⟩
        subst hwo
        obtain ⟨x0, x1, x2, x3⟩ := hB t hlt
        go_wp2
        go_region
        focus
          go_wp2
          go_loopg [65] 4 (fun kx s65 wr => ∃ q : Nat, s65 = .int .i64 q ∧ q ≤ 4 ∧ 4 - q ≤ kx ∧ Hid (∀ j, j < q → plB (f4 (B t).1 (B t).2.1 (B t).2.2.1 (B t).2.2.2 j) = true) ∧ Hid (∀ j, j < 4 → wr.cell? ⟨wo.heap.size, j, none⟩ = some (.float .f64 (f4 (B t).1 (B t).2.1 (B t).2.2.1 (B t).2.2.2 j))) ∧ Bel wo wr)
          case atStart => exact ⟨0, rfl, by omega, by omega, fun j h => absurd h (by omega), new_f4 _ _ _ _ wo _, by repeat (first | exact bl_refl _ | apply bl_drew | apply bl_alloc)⟩
          case round =>
            obtain ⟨q, rfl, hq4, hqx, hF, hG, hW4⟩ := hrel
            by_cases hlt4 : q < 4
            · have hlt4z : (q : Int) < 4 := by omega
              have hwk4 : IntKind.wrap .i64 ((q : Int) + 1) = (q : Int) + 1 := by rw [IntKind.wrap_i64]; omega
              have x9 := hG.out q hlt4
              have oz : okK .f64 (f4 (B t).1 (B t).2.1 (B t).2.2.1 (B t).2.2.2 q) := by
                rcases (show q = 0 ∨ q = 1 ∨ q = 2 ∨ q = 3 by omega) with rfl | rfl | rfl | rfl
                · exact (ho t hlt).1
                · exact (ho t hlt).2.1
                · exact (ho t hlt).2.2.1
                · exact (ho t hlt).2.2.2
              obtain ⟨z, hz⟩ : ∃ z, f4 (B t).1 (B t).2.1 (B t).2.2.1 (B t).2.2.2 q = z := ⟨_, rfl⟩
              rw [hz] at x9 oz
              replace hz := hide hz
              by_cases h1 : rgK .f64 z = 0
              · have hfz : Hid (plB z = true) := hide (by simp [plB, h1])
                go_wp2_with (first | (go_at_call 12; (with_reducible refine (abs_any _ _ (by assumption)).mono ?_); rintro e w' ⟨rfl, hw⟩; rw [hw]; clear hw))
                go_roundg (4 - (q + 1))
                case measure => omega
                case rel => exact ⟨q + 1, by go_num, by omega, Nat.le_refl _, pl_snoc hF hz hfz, hG, hW4⟩
              · cases h2 : leK .f64 3706462493325918208 (rgK .f64 z)
                · go_wp2_with (first | (go_at_call 12; (with_reducible refine (abs_any _ _ (by assumption)).mono ?_); rintro e w' ⟨rfl, hw⟩; rw [hw]; clear hw))
                  go_ret
                  exact ⟨by first | rfl | simp, bw_trans (bw_trans hb0 hW.1) hW4.1⟩
                · cases h3 : leK .f64 (rgK .f64 z) 5507902344274116608
                  · go_wp2_with (first | (go_at_call 12; (with_reducible refine (abs_any _ _ (by assumption)).mono ?_); rintro e w' ⟨rfl, hw⟩; rw [hw]; clear hw))
                    go_ret
                    exact ⟨by first | rfl | simp, bw_trans (bw_trans hb0 hW.1) hW4.1⟩
                  · have hfz : Hid (plB z = true) := hide (by simp [plB, h1, h2, h3])
                    go_wp2_with (first | (go_at_call 12; (with_reducible refine (abs_any _ _ (by assumption)).mono ?_); rintro e w' ⟨rfl, hw⟩; rw [hw]; clear hw))
                    go_roundg (4 - (q + 1))
                    case measure => omega
                    case rel => exact ⟨q + 1, by go_num, by omega, Nat.le_refl _, pl_snoc hF hz hfz, hG, hW4⟩
            · have hlt4z : ¬ (q : Int) < 4 := by omega
              have hq : q = 4 := by omega
              have hpl : ∀ j, j < 4 → plB (f4 (B t).1 (B t).2.1 (B t).2.2.1 (B t).2.2.2 j) = true := fun j hj => hF.out j (by omega)
              have hpr := prb_of (b := B t) hs rs fs (ho t hlt) hpl
              have HP' : Hid (∀ j, j < t + 1 → PrB (92 + k) (B j) (scB sF (B j))) := hide fun j hj => by
                by_cases h' : j < t
                · exact HP.out j h'
                · have : j = t := by omega
                  subst this; exact hpr
              have hsc1 := fun W => scale_at (x := (B t).1) (y := (B t).2.1) hpr.1.sc.1 hpr.2.1.sc.1 fs W
              have hsc2 := fun W => scale_at (x := (B t).2.2.1) (y := (B t).2.2.2) hpr.2.2.1.sc.1 hpr.2.2.2.sc.1 fs W
              obtain ⟨w5, hw5⟩ : ∃ x, x = wr := ⟨_, rfl⟩
              subst hw5
              have hW5 := bl_trans hW hW4
              have hO5 := hO.bel hW4
              have hsz5 := hW5.size
              obtain ⟨z0, z1, z2, z3⟩ := (hB.bel (bl_trans hW4 (bl_refl _))) t hlt
              clear hpl hpr hF hG hq
              go_wp2
              refine wp_region_monoT 17 (fun i W v => match i with | 0 => v = .slice sm t cm | 1 => v = .slice (some ⟨b, off, none⟩) n cap | 2 => v = .int .i64 (t : Int) | 3 => v = .pointer (some ⟨b, off + t * 4, none⟩) | 4 => v = .pointer (some ⟨b, off + t * 4, none⟩) | 5 => v = .agg #[.float .f64 (B t).1, .float .f64 (B t).2.1] | 6 => v = .float .f64 sF | 7 => v = .agg #[.float .f64 (Dv .mul (B t).1 sF), .float .f64 (Dv .mul (B t).2.1 sF)] | 8 => v = .slice (some ⟨b, off, none⟩) n cap | 9 => v = .int .i64 (t : Int) | 10 => v = .pointer (some ⟨b, off + t * 4, none⟩) | 11 => v = .pointer (some ⟨b, off + t * 4 + 2, none⟩) | 12 => v = .agg #[.float .f64 (B t).2.2.1, .float .f64 (B t).2.2.2] | 13 => v = .float .f64 sF | 14 => v = .agg #[.float .f64 (Dv .mul (B t).2.2.1 sF), .float .f64 (Dv .mul (B t).2.2.2 sF)] | 15 => v = .agg #[.float .f64 (Dv .mul (B t).1 sF), .float .f64 (Dv .mul (B t).2.1 sF), .float .f64 (Dv .mul (B t).2.2.1 sF), .float .f64 (Dv .mul (B t).2.2.2 sF)] | 16 => ∃ q, v = .slice (some ⟨q, 0, none⟩) 1 1 ∧ Rw W q 0 [.float .f64 (Dv .mul (B t).1 sF), .float .f64 (Dv .mul (B t).2.1 sF), .float .f64 (Dv .mul (B t).2.2.1 sF), .float .f64 (Dv .mul (B t).2.2.2 sF)] | _ => False) ?A_wt (by kernel_rfl) (by kernel_rfl) ?hA_wt ?hmo_wt ?hq_wt [17, 18] rfl ?ht_wt
              case hA_wt =>
                intro s
                simp only [putL, dstO, Act.put, List.getElem?_toArray, List.getElem?_cons_zero, List.getElem?_cons_succ, Option.bind_some, List.setIfInBounds_toArray, List.set_cons_zero, List.set_cons_succ, if_true]
                all_goals exact rfl
              case hmo_wt =>
                intro i W W' v hi hb h
                rcases (show i = 0 ∨ i = 1 ∨ i = 2 ∨ i = 3 ∨ i = 4 ∨ i = 5 ∨ i = 6 ∨ i = 7 ∨ i = 8 ∨ i = 9 ∨ i = 10 ∨ i = 11 ∨ i = 12 ∨ i = 13 ∨ i = 14 ∨ i = 15 ∨ i = 16 by omega) with rfl | rfl | rfl | rfl | rfl | rfl | rfl | rfl | rfl | rfl | rfl | rfl | rfl | rfl | rfl | rfl | rfl
                all_goals first | exact h | (obtain ⟨q, e, hR⟩ := h; exact ⟨q, e, hR.bel hb⟩)
              case hq_wt =>
                intro i o hi ho s W hs hb K hK
                have u0 := keepB hb z0; have u1 := keepB hb z1; have u2 := keepB hb z2; have u3 := keepB hb z3; have lu := World.block_lt_of_cell? _ _ u0; simp only at lu
                rcases (show i = 0 ∨ i = 1 ∨ i = 2 ∨ i = 3 ∨ i = 4 ∨ i = 5 ∨ i = 6 ∨ i = 7 ∨ i = 8 ∨ i = 9 ∨ i = 10 ∨ i = 11 ∨ i = 12 ∨ i = 13 ∨ i = 14 ∨ i = 15 ∨ i = 16 by omega) with rfl | rfl | rfl | rfl | rfl | rfl | rfl | rfl | rfl | rfl | rfl | rfl | rfl | rfl | rfl | rfl | rfl
                · cases ho
                  simp only [Act.put, List.setIfInBounds_toArray, List.set_cons_zero, List.set_cons_succ] at hK
                  clear hs
                  go_simp
                  all_goals (try go_wp2_with (first | (go_at_call 14; first | ((with_reducible refine (hsc1 _).mono ?_); rintro e w' ⟨rfl, hb1⟩) | ((with_reducible refine (hsc2 _).mono ?_); rintro e w' ⟨rfl, hb1⟩))))
                  all_goals first | with_reducible exact hK.out _ _ rfl (bl_refl _) | with_reducible exact hK.out _ _ rfl hb1 | exact hK.out _ _ ⟨_, rfl, fun j u hj => by rw [Nat.zero_add, World.cell?_alloc_new]; simpa using hj⟩ (bl_alloc (bl_refl _) _ _) | exact hK.out _ _ rfl (bl_refl _) | exact hK.out _ _ rfl (by assumption) | exact hK.out _ _ (by assumption) (by assumption)
                · cases ho
                  simp only [Act.put, List.setIfInBounds_toArray, List.set_cons_zero, List.set_cons_succ] at hK
                  clear hs
                  go_simp
                  all_goals (try go_wp2_with (first | (go_at_call 14; first | ((with_reducible refine (hsc1 _).mono ?_); rintro e w' ⟨rfl, hb1⟩) | ((with_reducible refine (hsc2 _).mono ?_); rintro e w' ⟨rfl, hb1⟩))))
                  all_goals first | with_reducible exact hK.out _ _ rfl (bl_refl _) | with_reducible exact hK.out _ _ rfl hb1 | exact hK.out _ _ ⟨_, rfl, fun j u hj => by rw [Nat.zero_add, World.cell?_alloc_new]; simpa using hj⟩ (bl_alloc (bl_refl _) _ _) | exact hK.out _ _ rfl (bl_refl _) | exact hK.out _ _ rfl (by assumption) | exact hK.out _ _ (by assumption) (by assumption)
                · cases ho
                  simp only [Act.put, List.setIfInBounds_toArray, List.set_cons_zero, List.set_cons_succ] at hK
                  clear hs
                  go_simp
                  all_goals (try go_wp2_with (first | (go_at_call 14; first | ((with_reducible refine (hsc1 _).mono ?_); rintro e w' ⟨rfl, hb1⟩) | ((with_reducible refine (hsc2 _).mono ?_); rintro e w' ⟨rfl, hb1⟩))))
                  all_goals first | with_reducible exact hK.out _ _ rfl (bl_refl _) | with_reducible exact hK.out _ _ rfl hb1 | exact hK.out _ _ ⟨_, rfl, fun j u hj => by rw [Nat.zero_add, World.cell?_alloc_new]; simpa using hj⟩ (bl_alloc (bl_refl _) _ _) | exact hK.out _ _ rfl (bl_refl _) | exact hK.out _ _ rfl (by assumption) | exact hK.out _ _ (by assumption) (by assumption)
                · cases ho
                  have e1 : s 1 = _ := hs 1 (by decide) (by kernel_rfl)
                  have e2 : s 2 = _ := hs 2 (by decide) (by kernel_rfl)
                  simp only [e1, e2] at hK ⊢
                  simp only [Act.put, List.setIfInBounds_toArray, List.set_cons_zero, List.set_cons_succ] at hK
                  clear hs
                  go_simp
                  all_goals (try go_wp2_with (first | (go_at_call 14; first | ((with_reducible refine (hsc1 _).mono ?_); rintro e w' ⟨rfl, hb1⟩) | ((with_reducible refine (hsc2 _).mono ?_); rintro e w' ⟨rfl, hb1⟩))))
                  all_goals first | with_reducible exact hK.out _ _ rfl (bl_refl _) | with_reducible exact hK.out _ _ rfl hb1 | exact hK.out _ _ ⟨_, rfl, fun j u hj => by rw [Nat.zero_add, World.cell?_alloc_new]; simpa using hj⟩ (bl_alloc (bl_refl _) _ _) | exact hK.out _ _ rfl (bl_refl _) | exact hK.out _ _ rfl (by assumption) | exact hK.out _ _ (by assumption) (by assumption)
                · cases ho
                  have e3 : s 3 = _ := hs 3 (by decide) (by kernel_rfl)
                  simp only [e3] at hK ⊢
                  simp only [Act.put, List.setIfInBounds_toArray, List.set_cons_zero, List.set_cons_succ] at hK
                  clear hs
                  go_simp
                  all_goals (try go_wp2_with (first | (go_at_call 14; first | ((with_reducible refine (hsc1 _).mono ?_); rintro e w' ⟨rfl, hb1⟩) | ((with_reducible refine (hsc2 _).mono ?_); rintro e w' ⟨rfl, hb1⟩))))
                  all_goals first | with_reducible exact hK.out _ _ rfl (bl_refl _) | with_reducible exact hK.out _ _ rfl hb1 | exact hK.out _ _ ⟨_, rfl, fun j u hj => by rw [Nat.zero_add, World.cell?_alloc_new]; simpa using hj⟩ (bl_alloc (bl_refl _) _ _) | exact hK.out _ _ rfl (bl_refl _) | exact hK.out _ _ rfl (by assumption) | exact hK.out _ _ (by assumption) (by assumption)
                · cases ho
                  have e4 : s 4 = _ := hs 4 (by decide) (by kernel_rfl)
                  simp only [e4] at hK ⊢
                  simp only [Act.put, List.setIfInBounds_toArray, List.set_cons_zero, List.set_cons_succ] at hK
                  clear hs
                  go_simp
                  all_goals (try go_wp2_with (first | (go_at_call 14; first | ((with_reducible refine (hsc1 _).mono ?_); rintro e w' ⟨rfl, hb1⟩) | ((with_reducible refine (hsc2 _).mono ?_); rintro e w' ⟨rfl, hb1⟩))))
                  all_goals first | with_reducible exact hK.out _ _ rfl (bl_refl _) | with_reducible exact hK.out _ _ rfl hb1 | exact hK.out _ _ ⟨_, rfl, fun j u hj => by rw [Nat.zero_add, World.cell?_alloc_new]; simpa using hj⟩ (bl_alloc (bl_refl _) _ _) | exact hK.out _ _ rfl (bl_refl _) | exact hK.out _ _ rfl (by assumption) | exact hK.out _ _ (by assumption) (by assumption)
                · cases ho
                  simp only [Act.put, List.setIfInBounds_toArray, List.set_cons_zero, List.set_cons_succ] at hK
                  clear hs
                  go_simp
                  all_goals (try go_wp2_with (first | (go_at_call 14; first | ((with_reducible refine (hsc1 _).mono ?_); rintro e w' ⟨rfl, hb1⟩) | ((with_reducible refine (hsc2 _).mono ?_); rintro e w' ⟨rfl, hb1⟩))))
                  all_goals first | with_reducible exact hK.out _ _ rfl (bl_refl _) | with_reducible exact hK.out _ _ rfl hb1 | exact hK.out _ _ ⟨_, rfl, fun j u hj => by rw [Nat.zero_add, World.cell?_alloc_new]; simpa using hj⟩ (bl_alloc (bl_refl _) _ _) | exact hK.out _ _ rfl (bl_refl _) | exact hK.out _ _ rfl (by assumption) | exact hK.out _ _ (by assumption) (by assumption)
                · cases ho
                  have e5 : s 5 = _ := hs 5 (by decide) (by kernel_rfl)
                  have e6 : s 6 = _ := hs 6 (by decide) (by kernel_rfl)
                  simp only [e5, e6] at hK ⊢
                  simp only [Act.put, List.setIfInBounds_toArray, List.set_cons_zero, List.set_cons_succ] at hK
                  clear hs
                  go_simp
                  all_goals (try go_wp2_with (first | (go_at_call 14; first | ((with_reducible refine (hsc1 _).mono ?_); rintro e w' ⟨rfl, hb1⟩) | ((with_reducible refine (hsc2 _).mono ?_); rintro e w' ⟨rfl, hb1⟩))))
                  all_goals first | with_reducible exact hK.out _ _ rfl (bl_refl _) | with_reducible exact hK.out _ _ rfl hb1 | exact hK.out _ _ ⟨_, rfl, fun j u hj => by rw [Nat.zero_add, World.cell?_alloc_new]; simpa using hj⟩ (bl_alloc (bl_refl _) _ _) | exact hK.out _ _ rfl (bl_refl _) | exact hK.out _ _ rfl (by assumption) | exact hK.out _ _ (by assumption) (by assumption)
                · cases ho
                  simp only [Act.put, List.setIfInBounds_toArray, List.set_cons_zero, List.set_cons_succ] at hK
                  clear hs
                  go_simp
                  all_goals (try go_wp2_with (first | (go_at_call 14; first | ((with_reducible refine (hsc1 _).mono ?_); rintro e w' ⟨rfl, hb1⟩) | ((with_reducible refine (hsc2 _).mono ?_); rintro e w' ⟨rfl, hb1⟩))))
                  all_goals first | with_reducible exact hK.out _ _ rfl (bl_refl _) | with_reducible exact hK.out _ _ rfl hb1 | exact hK.out _ _ ⟨_, rfl, fun j u hj => by rw [Nat.zero_add, World.cell?_alloc_new]; simpa using hj⟩ (bl_alloc (bl_refl _) _ _) | exact hK.out _ _ rfl (bl_refl _) | exact hK.out _ _ rfl (by assumption) | exact hK.out _ _ (by assumption) (by assumption)
                · cases ho
                  simp only [Act.put, List.setIfInBounds_toArray, List.set_cons_zero, List.set_cons_succ] at hK
                  clear hs
                  go_simp
                  all_goals (try go_wp2_with (first | (go_at_call 14; first | ((with_reducible refine (hsc1 _).mono ?_); rintro e w' ⟨rfl, hb1⟩) | ((with_reducible refine (hsc2 _).mono ?_); rintro e w' ⟨rfl, hb1⟩))))
                  all_goals first | with_reducible exact hK.out _ _ rfl (bl_refl _) | with_reducible exact hK.out _ _ rfl hb1 | exact hK.out _ _ ⟨_, rfl, fun j u hj => by rw [Nat.zero_add, World.cell?_alloc_new]; simpa using hj⟩ (bl_alloc (bl_refl _) _ _) | exact hK.out _ _ rfl (bl_refl _) | exact hK.out _ _ rfl (by assumption) | exact hK.out _ _ (by assumption) (by assumption)
                · cases ho
                  have e8 : s 8 = _ := hs 8 (by decide) (by kernel_rfl)
                  have e9 : s 9 = _ := hs 9 (by decide) (by kernel_rfl)
                  simp only [e8, e9] at hK ⊢
                  simp only [Act.put, List.setIfInBounds_toArray, List.set_cons_zero, List.set_cons_succ] at hK
                  clear hs
                  go_simp
                  all_goals (try go_wp2_with (first | (go_at_call 14; first | ((with_reducible refine (hsc1 _).mono ?_); rintro e w' ⟨rfl, hb1⟩) | ((with_reducible refine (hsc2 _).mono ?_); rintro e w' ⟨rfl, hb1⟩))))
                  all_goals first | with_reducible exact hK.out _ _ rfl (bl_refl _) | with_reducible exact hK.out _ _ rfl hb1 | exact hK.out _ _ ⟨_, rfl, fun j u hj => by rw [Nat.zero_add, World.cell?_alloc_new]; simpa using hj⟩ (bl_alloc (bl_refl _) _ _) | exact hK.out _ _ rfl (bl_refl _) | exact hK.out _ _ rfl (by assumption) | exact hK.out _ _ (by assumption) (by assumption)
                · cases ho
                  have e10 : s 10 = _ := hs 10 (by decide) (by kernel_rfl)
                  simp only [e10] at hK ⊢
                  simp only [Act.put, List.setIfInBounds_toArray, List.set_cons_zero, List.set_cons_succ] at hK
                  clear hs
                  go_simp
                  all_goals (try go_wp2_with (first | (go_at_call 14; first | ((with_reducible refine (hsc1 _).mono ?_); rintro e w' ⟨rfl, hb1⟩) | ((with_reducible refine (hsc2 _).mono ?_); rintro e w' ⟨rfl, hb1⟩))))
                  all_goals first | with_reducible exact hK.out _ _ rfl (bl_refl _) | with_reducible exact hK.out _ _ rfl hb1 | exact hK.out _ _ ⟨_, rfl, fun j u hj => by rw [Nat.zero_add, World.cell?_alloc_new]; simpa using hj⟩ (bl_alloc (bl_refl _) _ _) | exact hK.out _ _ rfl (bl_refl _) | exact hK.out _ _ rfl (by assumption) | exact hK.out _ _ (by assumption) (by assumption)
                · cases ho
                  have e11 : s 11 = _ := hs 11 (by decide) (by kernel_rfl)
                  simp only [e11] at hK ⊢
                  simp only [Act.put, List.setIfInBounds_toArray, List.set_cons_zero, List.set_cons_succ] at hK
                  clear hs
                  go_simp
                  all_goals (try go_wp2_with (first | (go_at_call 14; first | ((with_reducible refine (hsc1 _).mono ?_); rintro e w' ⟨rfl, hb1⟩) | ((with_reducible refine (hsc2 _).mono ?_); rintro e w' ⟨rfl, hb1⟩))))
                  all_goals first | with_reducible exact hK.out _ _ rfl (bl_refl _) | with_reducible exact hK.out _ _ rfl hb1 | exact hK.out _ _ ⟨_, rfl, fun j u hj => by rw [Nat.zero_add, World.cell?_alloc_new]; simpa using hj⟩ (bl_alloc (bl_refl _) _ _) | exact hK.out _ _ rfl (bl_refl _) | exact hK.out _ _ rfl (by assumption) | exact hK.out _ _ (by assumption) (by assumption)
                · cases ho
                  simp only [Act.put, List.setIfInBounds_toArray, List.set_cons_zero, List.set_cons_succ] at hK
                  clear hs
                  go_simp
                  all_goals (try go_wp2_with (first | (go_at_call 14; first | ((with_reducible refine (hsc1 _).mono ?_); rintro e w' ⟨rfl, hb1⟩) | ((with_reducible refine (hsc2 _).mono ?_); rintro e w' ⟨rfl, hb1⟩))))
                  all_goals first | with_reducible exact hK.out _ _ rfl (bl_refl _) | with_reducible exact hK.out _ _ rfl hb1 | exact hK.out _ _ ⟨_, rfl, fun j u hj => by rw [Nat.zero_add, World.cell?_alloc_new]; simpa using hj⟩ (bl_alloc (bl_refl _) _ _) | exact hK.out _ _ rfl (bl_refl _) | exact hK.out _ _ rfl (by assumption) | exact hK.out _ _ (by assumption) (by assumption)
                · cases ho
                  have e12 : s 12 = _ := hs 12 (by decide) (by kernel_rfl)
                  have e13 : s 13 = _ := hs 13 (by decide) (by kernel_rfl)
                  simp only [e12, e13] at hK ⊢
                  simp only [Act.put, List.setIfInBounds_toArray, List.set_cons_zero, List.set_cons_succ] at hK
                  clear hs
                  go_simp
                  all_goals (try go_wp2_with (first | (go_at_call 14; first | ((with_reducible refine (hsc1 _).mono ?_); rintro e w' ⟨rfl, hb1⟩) | ((with_reducible refine (hsc2 _).mono ?_); rintro e w' ⟨rfl, hb1⟩))))
                  all_goals first | with_reducible exact hK.out _ _ rfl (bl_refl _) | with_reducible exact hK.out _ _ rfl hb1 | exact hK.out _ _ ⟨_, rfl, fun j u hj => by rw [Nat.zero_add, World.cell?_alloc_new]; simpa using hj⟩ (bl_alloc (bl_refl _) _ _) | exact hK.out _ _ rfl (bl_refl _) | exact hK.out _ _ rfl (by assumption) | exact hK.out _ _ (by assumption) (by assumption)
                · cases ho
                  have e7 : s 7 = _ := hs 7 (by decide) (by kernel_rfl)
                  have e14 : s 14 = _ := hs 14 (by decide) (by kernel_rfl)
                  simp only [e7, e14] at hK ⊢
                  simp only [Act.put, List.setIfInBounds_toArray, List.set_cons_zero, List.set_cons_succ] at hK
                  clear hs
                  go_simp
                  all_goals (try go_wp2_with (first | (go_at_call 14; first | ((with_reducible refine (hsc1 _).mono ?_); rintro e w' ⟨rfl, hb1⟩) | ((with_reducible refine (hsc2 _).mono ?_); rintro e w' ⟨rfl, hb1⟩))))
                  all_goals first | with_reducible exact hK.out _ _ rfl (bl_refl _) | with_reducible exact hK.out _ _ rfl hb1 | exact hK.out _ _ ⟨_, rfl, fun j u hj => by rw [Nat.zero_add, World.cell?_alloc_new]; simpa using hj⟩ (bl_alloc (bl_refl _) _ _) | exact hK.out _ _ rfl (bl_refl _) | exact hK.out _ _ rfl (by assumption) | exact hK.out _ _ (by assumption) (by assumption)
                · cases ho
                  have e15 : s 15 = _ := hs 15 (by decide) (by kernel_rfl)
                  simp only [e15] at hK ⊢
                  simp only [Act.put, List.setIfInBounds_toArray, List.set_cons_zero, List.set_cons_succ] at hK
                  clear hs
                  go_simp
                  all_goals (try go_wp2_with (first | (go_at_call 14; first | ((with_reducible refine (hsc1 _).mono ?_); rintro e w' ⟨rfl, hb1⟩) | ((with_reducible refine (hsc2 _).mono ?_); rintro e w' ⟨rfl, hb1⟩))))
                  all_goals first | with_reducible exact hK.out _ _ rfl (bl_refl _) | with_reducible exact hK.out _ _ rfl hb1 | exact hK.out _ _ ⟨_, rfl, fun j u hj => by rw [Nat.zero_add, World.cell?_alloc_new]; simpa using hj⟩ (bl_alloc (bl_refl _) _ _) | exact hK.out _ _ rfl (bl_refl _) | exact hK.out _ _ rfl (by assumption) | exact hK.out _ _ (by assumption) (by assumption)
              case ht_wt =>
                intro s W hs hb
                have e0 : s 0 = _ := hs 0 (by decide)
                have e1 : s 1 = _ := hs 1 (by decide)
                have e2 : s 2 = _ := hs 2 (by decide)
                have e3 : s 3 = _ := hs 3 (by decide)
                have e4 : s 4 = _ := hs 4 (by decide)
                have e5 : s 5 = _ := hs 5 (by decide)
                have e6 : s 6 = _ := hs 6 (by decide)
                have e7 : s 7 = _ := hs 7 (by decide)
                have e8 : s 8 = _ := hs 8 (by decide)
                have e9 : s 9 = _ := hs 9 (by decide)
                have e10 : s 10 = _ := hs 10 (by decide)
                have e11 : s 11 = _ := hs 11 (by decide)
                have e12 : s 12 = _ := hs 12 (by decide)
                have e13 : s 13 = _ := hs 13 (by decide)
                have e14 : s 14 = _ := hs 14 (by decide)
                have e15 : s 15 = _ := hs 15 (by decide)
                obtain ⟨q16, e16, hR16⟩ := hs 16 (by decide)
                simp only [e0, e1, e2, e3, e4, e5, e6, e7, e8, e9, e10, e11, e12, e13, e14, e15, e16]
                clear hs e0 e1 e2 e3 e4 e5 e6 e7 e8 e9 e10 e11 e12 e13 e14 e15 e16
                obtain ⟨v2, w2, hrun, hO2, hv2, hB2⟩ := run_appR (P := Try.prog) (sz := 4) (by_ := 32) (R := bRow (fun j => scB sF (B j)) t) (N := [.float .f64 (Dv .mul (B t).1 sF), .float .f64 (Dv .mul (B t).2.1 sF), .float .f64 (Dv .mul (B t).2.2.1 sF), .float .f64 (Dv .mul (B t).2.2.2 sF)]) 22 22 35 Try.underlying22 info_box rfl q16 0 1 1 (hO5.bel hb) rfl hR16 (by intro u hu; simp at hu; rcases hu with rfl | rfl | rfl | rfl <;> rfl) (by decide) (Nat.le_trans hsz5 hb.size) (by unfold maxLen; omega) (by omega)
                refine tail_run rfl rfl (exec_app rfl rfl rfl hrun) ?_
                refine tail_step rfl (fun K hK => ?_)
                go_simp
                refine hK.out _ _ ?_
                clear hK K
                refine tail_end ?_
                have B9 := hB2 w0 (bl_trans hW5 hb) (Nat.le_refl _)
                have HO9 : Aside _ := own_step hO2
                clear hO2 hrun
                obtain ⟨vn, hvn⟩ : ∃ x, x = v2 := ⟨_, rfl⟩
                go_wp2
                go_roundg (n - (t + 1))
                case measure => omega
                case rel => exact ⟨t + 1, by go_num, by omega, Nat.le_refl _, HO9.out, B9, HP'⟩
      · have hltz : ¬ (t : Int) < (n : Int) := by omega
        have hnt : n = t := by omega
        subst hnt
        have hM5 := own_any4 hO
        have hA5 := hA0.below hW.1
        have K5 := bw_trans hb0 hW.1
        have hpr := HP.out
        have hgw := HGW.out (fun j => scB sF (B j)) hpr
        have hR := refP_scaled hpr
        have hp1 := fun (W : World) (h : AnyB W sa n B) => pairs14_s sa n cap 4607182418800017408 B W h hn
        have hp2 := fun (W : World) (h : AnyB W sm n (fun j => scB sF (B j))) => pairs14_s sm n cm 4607182418800017408 (fun j => scB sF (B j)) W h hn
        have g1 : ckG n 4607182418800017408 = 0 := by unfold ckG; rw [if_neg (by omega)]; decide +kernel
        have l1 : gpL B n 4607182418800017408 = refP B n := by unfold gpL; rw [if_pos (by decide +kernel)]
        have l2 : gpL (fun j => scB sF (B j)) n 4607182418800017408 = refP B n := by unfold gpL; rw [if_pos (by decide +kernel), hR]
        have lP : (refP B n).length ≤ 40000 := by
          have := gpL_len (B := B) (d := 4607182418800017408) hn
          rw [l1] at this
          exact this
        simp only [g1, l1] at hp1
        simp only [g1, l2] at hp2
        have hw1 := fun (W : World) (h : AnyB W sa n B) => width14_s sa n cap B W h (fun i hi => ⟨(ho i hi).1, (ho i hi).2.1⟩)
        have hw2 := fun (W : World) (h : AnyB W sm n (fun j => scB sF (B j))) => width14_s sm n cm (fun j => scB sF (B j)) W h (fun i hi => ⟨(hpr i hi).1.sc.2.2.2.1, (hpr i hi).2.1.sc.2.2.2.1⟩)
        have mn : mnE n = 0 := by unfold mnE; rw [if_neg (by omega)]
        have hnn : nanK .f64 (gwW (fun j => scB sF (B j)) n) = false := gw_num (fun j => scB sF (B j)) hn
        obtain ⟨v0v, hv0⟩ : ∃ x, gwW B n = x := ⟨_, rfl⟩
        obtain ⟨w0v, hw0⟩ : ∃ x, gwW (fun j => scB sF (B j)) n = x := ⟨_, rfl⟩
        simp only [hv0, mn] at hw1
        simp only [hw0, mn] at hw2
        rw [hv0, hw0] at hgw
        rw [hw0] at hnn
        have HG := hide hgw
        have HEE : Hid (eqK .f64 w0v w0v = true) := hide (eq_self_num hnn)
        generalize refP B n = R at *
        have HLR : Hid (R.length < 4611686018427387904) := hide (by omega)
        clear g1 l1 l2 mn hgw hR hpr hv0 hw0 hnn lP HP HGW LD hO hA0
        generalize (fun j => scB sF (B j)) = M at *
        go_upto_region 25 with (first | (go_at_call 7; first | ((with_reducible refine (hp1 _ hA5).mono ?_); rintro e w6 ⟨v6, rfl, hO6, hz6, hb6⟩; have hA6 := hA5.below hb6; have hM6 := hM5.below hb6; have K6 := bw_trans K5 hb6; clear hp1) | ((with_reducible refine (hp2 w6 hM6).mono ?_); rintro e w7 ⟨v7, rfl, hO7, hz7, hb7⟩; have hA7 := hA6.below hb7; have hM7 := hM6.below hb7; have K7 := bw_trans K6 hb7; have p6 : PRow w7 v6 R := (own_prow hO6).below hb7; have p7 : PRow w7 v7 R := own_prow hO7)) | (go_at_call 15; (with_reducible refine (sameP_s R v6 v7 w7 p6 p7 HLR.out).mono ?_); rintro e w8 ⟨rfl, hb8⟩; have hA8 := hA7.below hb8.1; have hM8 := hM7.below hb8.1; have K8 := bw_trans K7 hb8.1) | (go_at_call 16; first | ((with_reducible refine (hw1 _ hA8).mono ?_); rintro e w9 ⟨rfl, hb9⟩; have hA9 := hA8.below hb9; have hM9 := hM8.below hb9; have K9 := bw_trans K8 hb9; clear hw1) | ((with_reducible refine (hw2 w9 hM9).mono ?_); rintro e w10 ⟨rfl, hb10⟩; have hA10 := hA9.below hb10; have K10 := bw_trans K9 hb10)))
        clear hO6 hO7 hz6 hz7 p6 p7 hM5 hM6 hM7 hM8 hM9 hA5 hA6 hA7 hA8 hA9 hp2 hw2
        cases y1 : eqK .f64 v0v 4472074429978902528
        · cases y2 : eqK .f64 v0v 4787326403894837248
          · cases y3 : eqK .f64 w0v 4472074429978902528
            · cases y4 : eqK .f64 w0v 4787326403894837248
              · go_wp2
                go_loopg [21, 22] n (fun kx s21 s22 wr => ∃ (t : Nat) (c : Bool), s22 = .int .i64 t ∧ s21 = .bool c ∧ t ≤ n ∧ n - t ≤ kx ∧ Bel w10 wr ∧ NonP B n c)
                case atStart => exact ⟨0, true, rfl, rfl, by omega, by omega, bl_refl _, fun h => by cases h⟩
                case round =>
                  obtain ⟨t, c, rfl, rfl, htn, hkx, hW9, HC⟩ := hrel
                  by_cases hlt : t < n
                  · have hltz : (t : Int) < (n : Int) := by omega
                    have hwk : IntKind.wrap .i64 ((t : Int) + 1) = (t : Int) + 1 := by rw [IntKind.wrap_i64]; omega
                    obtain ⟨b, off, hsa, hB, hb0'⟩ : ∃ b off, sa = some ⟨b, off, none⟩ ∧ Bs w10 b off n B ∧ b < w10.heap.size := by
                      rcases hA10 with h0 | h0
                      · omega
                      · exact h0
                    clear hA10
                    subst hsa
                    obtain ⟨x0, x1, x2, x3⟩ := (hB.bel hW9) t hlt
                    have hci := fun W => xCheck_any (B t).1 (B t).2.1 (B t).2.2.1 (B t).2.2.2 W
                    have mi := chk_may (B t)
                    obtain ⟨y1, hy1⟩ : ∃ c, chkN (bChk (B t).1 (B t).2.1 (B t).2.2.1 (B t).2.2.2) = c := ⟨_, rfl⟩
                    rw [hy1] at mi hci
                    clear hy1
                    cases c with
                    | false =>
                      clear mi
                      go_wp2_with (first | (go_at_call 9; (with_reducible refine (hci _).mono ?_); rintro e w11 ⟨rfl, hb11⟩; have hW11 := bl_trans hW9 hb11))
                      go_roundg (n - (t + 1))
                      case measure => omega
                      case rel => exact ⟨t + 1, false, by go_num, rfl, by omega, Nat.le_refl _, hW9, HC⟩
                    | true =>
                      cases hm : mayO (B t) with
                      | false =>
                        rw [hm] at mi
                        have m0 : ¬ y1 = 0 := fun h => by rw [h] at mi; cases mi
                        clear hm
                        go_wp2_with (first | (go_at_call 9; (with_reducible refine (hci _).mono ?_); rintro e w11 ⟨rfl, hb11⟩; have hW11 := bl_trans hW9 hb11))
                        go_roundg (n - (t + 1))
                        case measure => omega
                        case rel => exact ⟨t + 1, true, by go_num, by first | rfl | simp [m0], by omega, Nat.le_refl _, hW11, fun h => by cases h⟩
                      | true =>
                        rw [hm] at mi
                        have m0 : y1 = 0 := by simpa using mi
                        subst m0
                        have HM : Hid (∃ j, j < n ∧ mayO (B j) = true) := hide ⟨t, hlt, hm⟩
                        clear hm mi
                        go_wp2_with (first | (go_at_call 9; (with_reducible refine (hci _).mono ?_); rintro e w11 ⟨rfl, hb11⟩; have hW11 := bl_trans hW9 hb11))
                        go_roundg (n - (t + 1))
                        case measure => omega
                        case rel => exact ⟨t + 1, false, by go_num, rfl, by omega, Nat.le_refl _, hW11, fun _ => HM.out⟩
                  · have hltz : ¬ (t : Int) < (n : Int) := by omega
                    cases c with
                    | true =>
                      go_wp2
                      go_ret
                      exact ⟨by first | rfl | simp, bw_trans K10 hW9.1⟩
                    | false =>
                      obtain ⟨r, hr⟩ : ∃ r, r = w0v := ⟨_, rfl⟩
                      have hmul : floatBits .mul .f64 v0v sF = some w0v := by
                        obtain ⟨j, hj, hm⟩ := HC rfl
                        rcases HG.out with h | h | h | h | h | h
                        · rw [h j hj] at hm; cases hm
                        · rw [h] at y1; exact absurd y1 (by decide +kernel)
                        · rw [h] at y2; exact absurd y2 (by decide +kernel)
                        · rw [h] at y3; exact absurd y3 (by decide +kernel)
                        · rw [h] at y4; exact absurd y4 (by decide +kernel)
                        · exact h
                      have M1 : ∀ (t : TypeId) (W : World), (binOp .mul t (.float .f64 v0v) (.float .f64 sF)).run Try.prog W = .ok (.float .f64 w0v) W := fun t W => by rw [run_mul]; unfold fv fd; rw [hmul]; rfl
                      have hee : eqK .f64 w0v w0v = true := HEE.out
                      clear hr hmul
                      go_wp2
                      go_ret
                      exact ⟨by first | rfl | simp, bw_trans K10 hW9.1⟩
              · go_wp2
                go_loopg [21, 22] n (fun kx s21 s22 wr => ∃ (t : Nat) (c : Bool), s22 = .int .i64 t ∧ s21 = .bool c ∧ t ≤ n ∧ n - t ≤ kx ∧ Bel w10 wr ∧ NonP B n c)
                case atStart => exact ⟨0, true, rfl, rfl, by omega, by omega, bl_refl _, fun h => by cases h⟩
                case round =>
                  obtain ⟨t, c, rfl, rfl, htn, hkx, hW9, HC⟩ := hrel
                  by_cases hlt : t < n
                  · have hltz : (t : Int) < (n : Int) := by omega
                    have hwk : IntKind.wrap .i64 ((t : Int) + 1) = (t : Int) + 1 := by rw [IntKind.wrap_i64]; omega
                    obtain ⟨b, off, hsa, hB, hb0'⟩ : ∃ b off, sa = some ⟨b, off, none⟩ ∧ Bs w10 b off n B ∧ b < w10.heap.size := by
                      rcases hA10 with h0 | h0
                      · omega
                      · exact h0
                    clear hA10
                    subst hsa
                    obtain ⟨x0, x1, x2, x3⟩ := (hB.bel hW9) t hlt
                    have hci := fun W => xCheck_any (B t).1 (B t).2.1 (B t).2.2.1 (B t).2.2.2 W
                    have mi := chk_may (B t)
                    obtain ⟨y1, hy1⟩ : ∃ c, chkN (bChk (B t).1 (B t).2.1 (B t).2.2.1 (B t).2.2.2) = c := ⟨_, rfl⟩
                    rw [hy1] at mi hci
                    clear hy1
                    cases c with
                    | false =>
                      clear mi
                      go_wp2_with (first | (go_at_call 9; (with_reducible refine (hci _).mono ?_); rintro e w11 ⟨rfl, hb11⟩; have hW11 := bl_trans hW9 hb11))
                      go_roundg (n - (t + 1))
                      case measure => omega
                      case rel => exact ⟨t + 1, false, by go_num, rfl, by omega, Nat.le_refl _, hW9, HC⟩
                    | true =>
                      cases hm : mayO (B t) with
                      | false =>
                        rw [hm] at mi
                        have m0 : ¬ y1 = 0 := fun h => by rw [h] at mi; cases mi
                        clear hm
                        go_wp2_with (first | (go_at_call 9; (with_reducible refine (hci _).mono ?_); rintro e w11 ⟨rfl, hb11⟩; have hW11 := bl_trans hW9 hb11))
                        go_roundg (n - (t + 1))
                        case measure => omega
                        case rel => exact ⟨t + 1, true, by go_num, by first | rfl | simp [m0], by omega, Nat.le_refl _, hW11, fun h => by cases h⟩
                      | true =>
                        rw [hm] at mi
                        have m0 : y1 = 0 := by simpa using mi
                        subst m0
                        have HM : Hid (∃ j, j < n ∧ mayO (B j) = true) := hide ⟨t, hlt, hm⟩
                        clear hm mi
                        go_wp2_with (first | (go_at_call 9; (with_reducible refine (hci _).mono ?_); rintro e w11 ⟨rfl, hb11⟩; have hW11 := bl_trans hW9 hb11))
                        go_roundg (n - (t + 1))
                        case measure => omega
                        case rel => exact ⟨t + 1, false, by go_num, rfl, by omega, Nat.le_refl _, hW11, fun _ => HM.out⟩
                  · have hltz : ¬ (t : Int) < (n : Int) := by omega
                    go_wp2
                    go_ret
                    exact ⟨by first | rfl | simp, bw_trans K10 hW9.1⟩
            · go_wp2
              go_loopg [21, 22] n (fun kx s21 s22 wr => ∃ (t : Nat) (c : Bool), s22 = .int .i64 t ∧ s21 = .bool c ∧ t ≤ n ∧ n - t ≤ kx ∧ Bel w10 wr ∧ NonP B n c)
              case atStart => exact ⟨0, true, rfl, rfl, by omega, by omega, bl_refl _, fun h => by cases h⟩
              case round =>
                obtain ⟨t, c, rfl, rfl, htn, hkx, hW9, HC⟩ := hrel
                by_cases hlt : t < n
                · have hltz : (t : Int) < (n : Int) := by omega
                  have hwk : IntKind.wrap .i64 ((t : Int) + 1) = (t : Int) + 1 := by rw [IntKind.wrap_i64]; omega
                  obtain ⟨b, off, hsa, hB, hb0'⟩ : ∃ b off, sa = some ⟨b, off, none⟩ ∧ Bs w10 b off n B ∧ b < w10.heap.size := by
                    rcases hA10 with h0 | h0
                    · omega
                    · exact h0
                  clear hA10
                  subst hsa
                  obtain ⟨x0, x1, x2, x3⟩ := (hB.bel hW9) t hlt
                  have hci := fun W => xCheck_any (B t).1 (B t).2.1 (B t).2.2.1 (B t).2.2.2 W
                  have mi := chk_may (B t)
                  obtain ⟨y1, hy1⟩ : ∃ c, chkN (bChk (B t).1 (B t).2.1 (B t).2.2.1 (B t).2.2.2) = c := ⟨_, rfl⟩
                  rw [hy1] at mi hci
                  clear hy1
                  cases c with
                  | false =>
                    clear mi
                    go_wp2_with (first | (go_at_call 9; (with_reducible refine (hci _).mono ?_); rintro e w11 ⟨rfl, hb11⟩; have hW11 := bl_trans hW9 hb11))
                    go_roundg (n - (t + 1))
                    case measure => omega
                    case rel => exact ⟨t + 1, false, by go_num, rfl, by omega, Nat.le_refl _, hW9, HC⟩
                  | true =>
                    cases hm : mayO (B t) with
                    | false =>
                      rw [hm] at mi
                      have m0 : ¬ y1 = 0 := fun h => by rw [h] at mi; cases mi
                      clear hm
                      go_wp2_with (first | (go_at_call 9; (with_reducible refine (hci _).mono ?_); rintro e w11 ⟨rfl, hb11⟩; have hW11 := bl_trans hW9 hb11))
                      go_roundg (n - (t + 1))
                      case measure => omega
                      case rel => exact ⟨t + 1, true, by go_num, by first | rfl | simp [m0], by omega, Nat.le_refl _, hW11, fun h => by cases h⟩
                    | true =>
                      rw [hm] at mi
                      have m0 : y1 = 0 := by simpa using mi
                      subst m0
                      have HM : Hid (∃ j, j < n ∧ mayO (B j) = true) := hide ⟨t, hlt, hm⟩
                      clear hm mi
                      go_wp2_with (first | (go_at_call 9; (with_reducible refine (hci _).mono ?_); rintro e w11 ⟨rfl, hb11⟩; have hW11 := bl_trans hW9 hb11))
                      go_roundg (n - (t + 1))
                      case measure => omega
                      case rel => exact ⟨t + 1, false, by go_num, rfl, by omega, Nat.le_refl _, hW11, fun _ => HM.out⟩
                · have hltz : ¬ (t : Int) < (n : Int) := by omega
                  go_wp2
                  go_ret
                  exact ⟨by first | rfl | simp, bw_trans K10 hW9.1⟩
          · go_wp2
            go_loopg [21, 22] n (fun kx s21 s22 wr => ∃ (t : Nat) (c : Bool), s22 = .int .i64 t ∧ s21 = .bool c ∧ t ≤ n ∧ n - t ≤ kx ∧ Bel w10 wr ∧ NonP B n c)
            case atStart => exact ⟨0, true, rfl, rfl, by omega, by omega, bl_refl _, fun h => by cases h⟩
            case round =>
              obtain ⟨t, c, rfl, rfl, htn, hkx, hW9, HC⟩ := hrel
              by_cases hlt : t < n
              · have hltz : (t : Int) < (n : Int) := by omega
                have hwk : IntKind.wrap .i64 ((t : Int) + 1) = (t : Int) + 1 := by rw [IntKind.wrap_i64]; omega
                obtain ⟨b, off, hsa, hB, hb0'⟩ : ∃ b off, sa = some ⟨b, off, none⟩ ∧ Bs w10 b off n B ∧ b < w10.heap.size := by
                  rcases hA10 with h0 | h0
                  · omega
                  · exact h0
                clear hA10
                subst hsa
                obtain ⟨x0, x1, x2, x3⟩ := (hB.bel hW9) t hlt
                have hci := fun W => xCheck_any (B t).1 (B t).2.1 (B t).2.2.1 (B t).2.2.2 W
                have mi := chk_may (B t)
                obtain ⟨y1, hy1⟩ : ∃ c, chkN (bChk (B t).1 (B t).2.1 (B t).2.2.1 (B t).2.2.2) = c := ⟨_, rfl⟩
                rw [hy1] at mi hci
                clear hy1
                cases c with
                | false =>
                  clear mi
                  go_wp2_with (first | (go_at_call 9; (with_reducible refine (hci _).mono ?_); rintro e w11 ⟨rfl, hb11⟩; have hW11 := bl_trans hW9 hb11))
                  go_roundg (n - (t + 1))
                  case measure => omega
                  case rel => exact ⟨t + 1, false, by go_num, rfl, by omega, Nat.le_refl _, hW9, HC⟩
                | true =>
                  cases hm : mayO (B t) with
                  | false =>
                    rw [hm] at mi
                    have m0 : ¬ y1 = 0 := fun h => by rw [h] at mi; cases mi
                    clear hm
                    go_wp2_with (first | (go_at_call 9; (with_reducible refine (hci _).mono ?_); rintro e w11 ⟨rfl, hb11⟩; have hW11 := bl_trans hW9 hb11))
                    go_roundg (n - (t + 1))
                    case measure => omega
                    case rel => exact ⟨t + 1, true, by go_num, by first | rfl | simp [m0], by omega, Nat.le_refl _, hW11, fun h => by cases h⟩
                  | true =>
                    rw [hm] at mi
                    have m0 : y1 = 0 := by simpa using mi
                    subst m0
                    have HM : Hid (∃ j, j < n ∧ mayO (B j) = true) := hide ⟨t, hlt, hm⟩
                    clear hm mi
                    go_wp2_with (first | (go_at_call 9; (with_reducible refine (hci _).mono ?_); rintro e w11 ⟨rfl, hb11⟩; have hW11 := bl_trans hW9 hb11))
                    go_roundg (n - (t + 1))
                    case measure => omega
                    case rel => exact ⟨t + 1, false, by go_num, rfl, by omega, Nat.le_refl _, hW11, fun _ => HM.out⟩
              · have hltz : ¬ (t : Int) < (n : Int) := by omega
                go_wp2
                go_ret
                exact ⟨by first | rfl | simp, bw_trans K10 hW9.1⟩
        · go_wp2
          go_loopg [21, 22] n (fun kx s21 s22 wr => ∃ (t : Nat) (c : Bool), s22 = .int .i64 t ∧ s21 = .bool c ∧ t ≤ n ∧ n - t ≤ kx ∧ Bel w10 wr ∧ NonP B n c)
          case atStart => exact ⟨0, true, rfl, rfl, by omega, by omega, bl_refl _, fun h => by cases h⟩
          case round =>
            obtain ⟨t, c, rfl, rfl, htn, hkx, hW9, HC⟩ := hrel
            by_cases hlt : t < n
            · have hltz : (t : Int) < (n : Int) := by omega
              have hwk : IntKind.wrap .i64 ((t : Int) + 1) = (t : Int) + 1 := by rw [IntKind.wrap_i64]; omega
              obtain ⟨b, off, hsa, hB, hb0'⟩ : ∃ b off, sa = some ⟨b, off, none⟩ ∧ Bs w10 b off n B ∧ b < w10.heap.size := by
                rcases hA10 with h0 | h0
                · omega
                · exact h0
              clear hA10
              subst hsa
              obtain ⟨x0, x1, x2, x3⟩ := (hB.bel hW9) t hlt
              have hci := fun W => xCheck_any (B t).1 (B t).2.1 (B t).2.2.1 (B t).2.2.2 W
              have mi := chk_may (B t)
              obtain ⟨y1, hy1⟩ : ∃ c, chkN (bChk (B t).1 (B t).2.1 (B t).2.2.1 (B t).2.2.2) = c := ⟨_, rfl⟩
              rw [hy1] at mi hci
              clear hy1
              cases c with
              | false =>
                clear mi
                go_wp2_with (first | (go_at_call 9; (with_reducible refine (hci _).mono ?_); rintro e w11 ⟨rfl, hb11⟩; have hW11 := bl_trans hW9 hb11))
                go_roundg (n - (t + 1))
                case measure => omega
                case rel => exact ⟨t + 1, false, by go_num, rfl, by omega, Nat.le_refl _, hW9, HC⟩
              | true =>
                cases hm : mayO (B t) with
                | false =>
                  rw [hm] at mi
                  have m0 : ¬ y1 = 0 := fun h => by rw [h] at mi; cases mi
                  clear hm
                  go_wp2_with (first | (go_at_call 9; (with_reducible refine (hci _).mono ?_); rintro e w11 ⟨rfl, hb11⟩; have hW11 := bl_trans hW9 hb11))
                  go_roundg (n - (t + 1))
                  case measure => omega
                  case rel => exact ⟨t + 1, true, by go_num, by first | rfl | simp [m0], by omega, Nat.le_refl _, hW11, fun h => by cases h⟩
                | true =>
                  rw [hm] at mi
                  have m0 : y1 = 0 := by simpa using mi
                  subst m0
                  have HM : Hid (∃ j, j < n ∧ mayO (B j) = true) := hide ⟨t, hlt, hm⟩
                  clear hm mi
                  go_wp2_with (first | (go_at_call 9; (with_reducible refine (hci _).mono ?_); rintro e w11 ⟨rfl, hb11⟩; have hW11 := bl_trans hW9 hb11))
                  go_roundg (n - (t + 1))
                  case measure => omega
                  case rel => exact ⟨t + 1, false, by go_num, rfl, by omega, Nat.le_refl _, hW11, fun _ => HM.out⟩
            · have hltz : ¬ (t : Int) < (n : Int) := by omega
              go_wp2
              go_ret
              exact ⟨by first | rfl | simp, bw_trans K10 hW9.1⟩
  · have hnz : (200 : Int) < (n : Int) := by omega
    go_enter Try.func5, Try.ntmps5
    go_wp2_with (first | (go_at_call 6; (with_reducible refine (alive14_s _).mono ?_); rintro e w0 ⟨rfl, hb0⟩; have hA0 := hA.below hb0))
    go_ret
    exact ⟨rfl, hb0⟩

/-- a row of boxes: none, or len of them in cells, with room for cap -/
def IsBoxes (w : World) (a : Option Addr) (len cap : Nat) : Prop :=
  (a = none ∧ len = 0 ∧ cap = 0) ∨ ∃ (x : Addr) (B : Nat → Bo), a = some x ∧ len ≤ cap ∧ cap ≤ maxLen ∧ len * 32 ≤ 140737488351232 ∧ ∀ i, i < len → w.cell? (x.add (i * 4)) = some (.float .f64 (B i).1) ∧ w.cell? (x.add (i * 4 + 1)) = some (.float .f64 (B i).2.1) ∧ w.cell? (x.add (i * 4 + 2)) = some (.float .f64 (B i).2.2.1) ∧ w.cell? (x.add (i * 4 + 3)) = some (.float .f64 (B i).2.2.2) ∧ okK .f64 (B i).1 ∧ okK .f64 (B i).2.1 ∧ okK .f64 (B i).2.2.1 ∧ okK .f64 (B i).2.2.2
theorem any_of {w : World} {a : Option Addr} {len cap : Nat} (h : IsBoxes w a len cap) : ∃ B, AnyB w a len B ∧ len * 32 ≤ 140737488351232 ∧ ∀ i, i < len → okK .f64 (B i).1 ∧ okK .f64 (B i).2.1 ∧ okK .f64 (B i).2.2.1 ∧ okK .f64 (B i).2.2.2 := by
  rcases h with ⟨rfl, rfl, rfl⟩ | ⟨x, B, rfl, hl, hm, hr, hcell⟩
  · exact ⟨fun _ => (0, 0, 0, 0), .inl rfl, by omega, fun i hi => by omega⟩
  · refine ⟨B, ?_, hr, fun i hi => (hcell i hi).2.2.2.2⟩
    rcases Nat.eq_zero_or_pos len with h0 | h0
    · exact .inl h0
    · right
      obtain ⟨b, off, spot⟩ := x
      have hspot : spot = none := by simpa [Addr.add] using World.cell?_spot (hcell 0 h0).1
      subst hspot
      have hc0 := (hcell 0 h0).1
      rw [add_plain] at hc0
      refine ⟨b, off, rfl, fun i hi => ?_, World.block_lt_of_cell? _ _ hc0⟩
      obtain ⟨h1, h2, h3, h4, _⟩ := hcell i hi
      rw [add_plain] at h1 h2 h3 h4
      rw [← Nat.add_assoc] at h2 h3 h4
      exact ⟨h1, h2, h3, h4⟩
theorem walk (a0 : Option Addr) (len0 cap0 : Nat) (i1 : Int) (wi1 : (Lit.int .i64 i1).wf = true) (w : World) (h0 : IsBoxes w a0 len0 cap0) :
    Calls Try.prog 5 #[.slice a0 len0 cap0, .int .i64 i1] w fun e w' => e = .returned (.bool true) ∧ Below w.heap.size w w' := by
  obtain ⟨B0, g0, r0, o0⟩ := any_of h0
  exact walk_any a0 len0 cap0 B0 i1 wi1 w g0 r0 o0

set_option maxRecDepth 100000 in
theorem lifted (os : Os) (started : os.Started) (H : Type) (enc : TypeId × Value → H) :
    ReturnsInHanded {} Try.checked os 5 .any (Rows.gridScaledSpec.pre6 enc Try.prog Try.f5 Rows.gridScaledRow.domain false) (Rows.gridScaledSpec.post enc Try.prog Try.f5 false true false false) := by
  refine returnsInHanded_of_change_sized (C := Try.checked) own started (by kernel_rfl) Try.func5
    (ChangeSpec.witness6 (enc := enc) (C := Try.checked) false ⟨#[], #[.slice none 0 0, .int .i64 0], []⟩ 8 (by kernel_rfl) (by kernel_rfl) (by kernel_rfl) (by kernel_rfl)) ?_
  intro W base args ds gs before hval0 hW hcnd hsz0 _
  have hsz : (DataW.weightsEach Try.prog (Try.f5.params.toList ++ Rows.gridScaledSpec.plain.varTypes Try.prog) (ds ++ gs)).all (· ≤ reachBytes) = true := hsz0
  have hval : ∀ (j : Nat) t v, Try.f5.params[j]? = some t → args[j]? = some v → Value.okWide Try.prog W .any base t v := hval0
  have hW' := hW
  obtain ⟨p, q, hA0, hV, rfl, hfz, hnd⟩ := hW
  have hA : DataW.TrodAll enc Try.prog W 0 (fun _ => true) true Try.f5.params.toList args.toList ds p := hA0
  rw [Try.params5] at hA hval hsz
  obtain ⟨v0, vs0, d0, ds0, p0, q0, hargs, rfl, rfl, h0, r0⟩ := trodAll_cons hA
  obtain ⟨v1, vs1, d1, ds1, p1, q1, rfl, rfl, rfl, h1, r1⟩ := trodAll_cons r0
  obtain ⟨rfl, rfl, rfl⟩ := trodAll_nil r1
  obtain rfl : args = #[v0, v1] := by cases args; simp_all
  obtain ⟨rfl, rfl⟩ := trodVars_none hV
  obtain ⟨a0, len0, cap0, rfl⟩ := okWide_slice Try.underlying22 (hval 0 22 v0 rfl rfl)
  obtain ⟨i1, rfl, rfl, rfl, wi1⟩ := open_int Try.underlying3 (hval 1 3 v1 rfl rfl) h1
  have k0 := h0
  have lt0 : ∀ x ∈ p0, x.block < W.heap.size := by obtain ⟨m, hm⟩ := k0; exact DataW.trod_lt m _ _ _ hm
  have w0 : IsBoxes W a0 len0 cap0 := by
    obtain ⟨fuel, hf⟩ := h0
    rcases Go.Deep.open_slice Try.underlying22 hf with ⟨hcs, _⟩ | ⟨x, l, c, m, n, D, Pl, hcs, _, hl, hm, hmm, hx, hcell⟩
    · simp [Value.cells] at hcs
      exact .inl hcs
    · simp [Value.cells] at hcs
      obtain ⟨rfl, rfl, rfl⟩ := hcs
      simp only [Prod.mk.injEq] at hx
      obtain ⟨rfl, rfl⟩ := hx
      have hr := sized_slice hsz (j := 0) (t := 22) (e := 35) rfl rfl Try.underlying22
      rw [show Try.prog.bytesOf 35 = 32 by kernel_rfl] at hr
      simp only [List.length_map, List.length_range, reachBytes] at hr
      have hlm : len0 ≤ m := by rw [hmm]; split <;> omega
      have V : ∀ i, ∃ q : Nat × Nat × Nat × Nat, i < m → W.cell? (x.add (i * 4)) = some (.float .f64 q.1) ∧ W.cell? (x.add (i * 4 + 1)) = some (.float .f64 q.2.1) ∧ W.cell? (x.add (i * 4 + 2)) = some (.float .f64 q.2.2.1) ∧ W.cell? (x.add (i * 4 + 3)) = some (.float .f64 q.2.2.2) ∧ okK .f64 q.1 ∧ okK .f64 q.2.1 ∧ okK .f64 q.2.2.1 ∧ okK .f64 q.2.2.2 := by
        intro i
        by_cases hi : i < m
        · obtain ⟨cs', h1, h2⟩ := hcell i hi
          rw [cellsM] at h1
          obtain ⟨_, hlen, hce⟩ := World.cells?_some h1
          obtain ⟨y0, y1, n', hx', _, g0, g1⟩ := trod_struct2 Try.underlying35 h2
          match cs', hlen with
          | [v0, v1, v2, v3], _ =>
            simp [cellsV] at g0 g1
            obtain ⟨z0, z1, n2, hz, _, g4, g5⟩ := trod_struct2 Try.underlying33 g0
            obtain ⟨z2, z3, n3, hz3, _, g6, g7⟩ := trod_struct2 Try.underlying33 g1
            simp [cellsF] at g4 g5 g6 g7
            obtain ⟨a, e0, _, wa⟩ := trod_fl Try.underlying23 g4
            obtain ⟨b, e1, _, wb⟩ := trod_fl Try.underlying23 g5
            obtain ⟨c, e2, _, wc⟩ := trod_fl Try.underlying23 g6
            obtain ⟨d, e3, _, wd⟩ := trod_fl Try.underlying23 g7
            simp at e0 e1 e2 e3
            subst e0 e1 e2 e3
            have q0 := hce 0 (by omega)
            have q1 := hce 1 (by omega)
            have q2 := hce 2 (by omega)
            have q3 := hce 3 (by omega)
            rw [Go.Deep.add_add] at q0 q1 q2 q3
            exact ⟨(a, b, c, d), fun _ => ⟨by simpa using q0, by simpa using q1, by simpa using q2, by simpa using q3, wf_f64 wa, wf_f64 wb, wf_f64 wc, wf_f64 wd⟩⟩
        · exact ⟨(0, 0, 0, 0), fun h => absurd h hi⟩
      have V' := Classical.axiomOfChoice V
      obtain ⟨f, hf'⟩ := V'
      exact .inr ⟨x, f, rfl, hl, hm, by omega, fun i hi => hf' i (by omega)⟩
  clear hA0 hval0 hsz0
  refine (walk a0 len0 cap0 i1 wi1 W w0).mono fun e W' ⟨he, bel0⟩ => ?_
  have bel := bel0
  subst he
  exact ⟨_, rfl, _, _, _, [], _, [], hW', trodAll_mk1 (shut_bool Try.underlying4 _), (trodAll_cons_mk (Below.trod laidOut (by kernel_rfl) (of_decide_eq_true (by kernel_rfl)) k0 bel lt0) (trodAll_cons_mk (shut_int Try.underlying3 wi1) trodAll_mk0)), rfl, bel.frame _, fun h => by cases h⟩

theorem over : Rows.gridScaledRow.holds Try.pinned (OpenSpec.ofChange Rows.gridScaledSpec) :=
  OpenClaim.holds_of_wide 5 Try.f5 rfl rfl rfl rfl rfl rfl rfl ⟨rfl, rfl, rfl, rfl, rfl⟩ rfl rfl rfl rfl rfl (by kernel_rfl) Try.func5 (by kernel_rfl)
    (of_decide_eq_true (by kernel_rfl)) (by unfold Func.isWrapper; first | (rw [if_pos (by decide +kernel)]; kernel_rfl) | (rw [if_neg (by decide +kernel)]; exact ⟨rfl, rfl⟩))
    (fun os started H enc _ => lifted os started H enc)

theorem proved : Rows.GridScaledSaid :=
  over
#print axioms proved
end Go.Proofs.Ytekhnolpgoejdab.gridScaled
