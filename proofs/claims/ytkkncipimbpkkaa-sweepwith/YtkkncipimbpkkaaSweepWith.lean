/-
  'tumblelaw13.SweepWith' is true of all rows of boxes.
-/
import Derived.Test.YtkkncipimbpkkaaRows
import Derived.Test.YtkkncipimbpkkaaSwu
import Derived.Test.YtkkncipimbpkkaaOnc5
import Derived.Test.YtkkncipimbpkkaaApps
import Derived.WalkKit
import Derived.ProofKit
import Derived.OpenShut
import Derived.WalkLawsBesides
import Derived.WalkSpells
import Derived.Lib.SmallJoins
import Derived.Laws.Cover2
import Derived.Laws.AppendOwn
import Derived.Laws.OwnMore
import Derived.Laws.AppendOwnNone
import Derived.Deep.RegionHeld3
import Derived.Deep.RegionWith
import Derived.Deep.SlicePairs
import Derived.Deep.Strs
import Derived.SizedLaws
import Derived.Below
import Derived.Deep.DeepCutAuto
import Derived.Laws.StructEq
namespace Go.Proofs.Ytkkncipimbpkkaa.sweepWith
open Go.ChangeShapes Go.WideShapes Go.ChangeAt Go.RowKit Go.Joins Go.Sort
set_option linter.unusedVariables false
set_option linter.unusedSimpArgs false

theorem own : ownKnob Try.prog.godebug = none := by kernel_rfl
theorem laidOut : laidOutB Try.prog = true := by kernel_rfl
theorem wf_f64 {x : Nat} (h : (Lit.float .f64 x).wf = true) : okK .f64 x := by
  rw [okK64]; simpa [Lit.wf] using h
theorem trod_fl {H : Type} {enc : TypeId × Value → H} {P : Program} {w : World} {base fuel : Nat} {spare : Nat → Bool} {held : Bool} {t : TypeId} {cs : List Value} {x : DataW H × List MemPlace} {k : FloatKind} (ht : P.underlying t = some (.float k)) (h : DataW.trod enc P w base spare held fuel t cs = some x) : ∃ z, cs = [.float k z] ∧ x = (.lit (.float k z), []) ∧ (Lit.float k z).wf = true := by
  cases fuel with
  | zero => simp [DataW.trod] at h
  | succ n =>
    unfold DataW.trod at h
    rw [ht] at h
    split at h <;> simp_all

theorem cellsV : Try.prog.cellsOf 25 = 2 := by kernel_rfl
theorem cellsM : Try.prog.cellsOf 27 = 4 := by kernel_rfl
theorem cellsF : Try.prog.cellsOf 23 = 1 := by kernel_rfl
set_option maxRecDepth 100000 in
theorem open_box {H : Type} {enc : TypeId × Value → H} {w : World} {base : Nat} {spare : Nat → Bool} {held : Bool} {r : Reach} {b0 : Nat} {v : Value} {d : DataW H} {p : List MemPlace}
    (hv : Value.okWide Try.prog w r b0 27 v) (h : DataW.Trod enc Try.prog w base spare held 27 v d p) :
    ∃ a b c e : Nat, v = .agg #[.float .f64 a, .float .f64 b, .float .f64 c, .float .f64 e] ∧ d = .agg [.agg [.lit (.float .f64 a), .lit (.float .f64 b)], .agg [.lit (.float .f64 c), .lit (.float .f64 e)]] ∧ p = [] ∧
      (Lit.float .f64 a).wf = true ∧ (Lit.float .f64 b).wf = true ∧ (Lit.float .f64 c).wf = true ∧ (Lit.float .f64 e).wf = true := by
  obtain ⟨cs, rfl, hsz⟩ := okWide_struct Try.underlying27 hv
  obtain ⟨c0, c1, c2, c3, rfl⟩ := array4 (hsz.trans (by kernel_rfl))
  obtain ⟨fuel, hf⟩ := h
  obtain ⟨y0, y1, n, hx, _, h0, h1⟩ := trod_struct2 Try.underlying27 hf
  simp [Value.cells, cellsV] at h0 h1
  obtain ⟨u0, u1, n1, hu, _, h2, h3⟩ := trod_struct2 Try.underlying25 h0
  obtain ⟨z0, z1, n2, hz, _, h4, h5⟩ := trod_struct2 Try.underlying25 h1
  simp [show Try.prog.cellsOf 23 = 1 by kernel_rfl] at h2 h3 h4 h5
  obtain ⟨a, e0, rfl, wa⟩ := trod_fl Try.underlying23 h2
  obtain ⟨b, e1, rfl, wb⟩ := trod_fl Try.underlying23 h3
  obtain ⟨c, e2, rfl, wc⟩ := trod_fl Try.underlying23 h4
  obtain ⟨e, e3, rfl, we⟩ := trod_fl Try.underlying23 h5
  simp at e0 e1 e2 e3
  subst e0 e1 e2 e3
  subst hu hz
  simp only [Prod.mk.injEq] at hx
  exact ⟨a, b, c, e, rfl, hx.1, hx.2, wa, wb, wc, we⟩
set_option maxRecDepth 100000 in
theorem shut_box {H : Type} {enc : TypeId × Value → H} {w : World} {base : Nat} {spare : Nat → Bool} {held : Bool} {a b c e : Nat} (wa : (Lit.float .f64 a).wf = true) (wb : (Lit.float .f64 b).wf = true) (wc : (Lit.float .f64 c).wf = true) (we : (Lit.float .f64 e).wf = true) :
    DataW.Trod enc Try.prog w base spare held 27 (.agg #[.float .f64 a, .float .f64 b, .float .f64 c, .float .f64 e]) (.agg [.agg [.lit (.float .f64 a), .lit (.float .f64 b)], .agg [.lit (.float .f64 c), .lit (.float .f64 e)]]) [] := by
  have cf : Try.prog.cellsOf 23 = 1 := by kernel_rfl
  have tv : ∀ x y : Nat, (Lit.float .f64 x).wf = true → (Lit.float .f64 y).wf = true → DataW.trod enc Try.prog w base spare held 2 25 [.float .f64 x, .float .f64 y] = some (.agg [.lit (.float .f64 x), .lit (.float .f64 y)], []) := fun x y wx wy =>
    trod_struct2_mk (y0 := (.lit (.float .f64 x), [])) (y1 := (.lit (.float .f64 y), [])) Try.underlying25 (by simp [cellsV]) (by simp [cf, DataW.trod, Try.underlying23, wx]) (by simp [cf, DataW.trod, Try.underlying23, wy])
  exact ⟨3, trod_struct2_mk (y0 := (.agg [.lit (.float .f64 a), .lit (.float .f64 b)], [])) (y1 := (.agg [.lit (.float .f64 c), .lit (.float .f64 e)], [])) Try.underlying27 (by simp [Value.cells]; kernel_rfl) (by simpa [Value.cells, cellsV] using tv a b wa wb) (by simpa [Value.cells, cellsV] using tv c e wc we)⟩

theorem keepIs {n cy : Nat} {wr w9 w10 : World} {g o gy : Nat} {L : List Nat} {cs : Array Value} {t : TypeId} (hoth : OtherB (.slice (some ⟨gy, 0, none⟩) n cy) n (wr.alloc (.cells cs t)) w10) (hC : ∀ c o, c ≠ gy → wr.cell? ⟨c, o, none⟩ = w9.cell? ⟨c, o, none⟩) (hs : wr.heap.size = w9.heap.size) (hI : Is w9 g o L) (hg : g ≠ gy) (hl : g < w9.heap.size) : Is w10 g o L := fun k r hk => by
  rw [hoth.1 g _ (by rw [World.size_alloc]; omega) (fun gg cp e => by injection e with e1 _ _; injection e1 with e1; injection e1 with e1 _ _; rw [← e1]; exact hg)]
  refine keepB (bl_alloc (bl_refl wr) cs t) ?_
  rw [hC g _ hg]
  exact hI k r hk
theorem own_len1 {sz base : Nat} {w : World} {v : Value} {n : Nat} {R : List Value} (h : OwnR sz base w v n R) : ∃ sa cap, v = .slice sa n cap := by
  rcases h.2 with ⟨e1, e2⟩ | ⟨k, cap, e, _⟩
  · subst e2; exact ⟨_, _, e1⟩
  · exact ⟨_, _, e⟩
theorem ordR_16 {B : Nat → Bo} {n : Nat} {O : List Nat} (h : OrdR B n O) : O.length ≤ 16384 := by
  rcases Nat.lt_or_ge 16384 n with hn | hn
  · rw [h.1 hn]; exact Nat.zero_le _
  · exact Nat.le_trans (h.2 hn).len hn
theorem ordR_len {B : Nat → Bo} {n : Nat} {O : List Nat} (h : OrdR B n O) : O.length ≤ n := by
  rcases Nat.lt_or_ge 16384 n with hn | hn
  · rw [h.1 hn]; exact Nat.zero_le _
  · exact (h.2 hn).len
theorem wiL_len (B : Nat → Bo) (n : Nat) (y : Bo) : (wiL B n y).length ≤ n := by
  unfold wiL
  split
  · exact Nat.zero_le _
  · exact nums_len _ _
set_option maxRecDepth 100000 in
set_option maxHeartbeats 16000000 in
theorem walk_any (sa : Option Addr) (n cap : Nat) (B : Nat → Bo) (y : Bo) (w : World) (hA : AnyB w sa n B) (hr : n * 32 ≤ 140737488351232) (ho : ∀ i, i < n → okK .f64 (B i).1 ∧ okK .f64 (B i).2.1 ∧ okK .f64 (B i).2.2.1 ∧ okK .f64 (B i).2.2.2) :
    Calls Try.prog 5 #[.slice sa n cap, .agg #[.float .f64 y.1, .float .f64 y.2.1, .float .f64 y.2.2.1, .float .f64 y.2.2.2]] w fun e w' => e = .returned (.bool true) ∧ Below w.heap.size w w' := by
  have B0 := bl_alloc (bl_refl w) #[.float .f64 y.1, .float .f64 y.2.1, .float .f64 y.2.2.1, .float .f64 y.2.2.2] 27
  obtain ⟨w0, hw0⟩ : ∃ w0, w0 = w.alloc (.cells #[.float .f64 y.1, .float .f64 y.2.1, .float .f64 y.2.2.1, .float .f64 y.2.2.2] 27) := ⟨_, rfl⟩
  have hk0 : Bk w0 w.heap.size y := by
    rw [hw0]
    exact ⟨by rw [World.cell?_alloc_new]; rfl, by rw [World.cell?_alloc_new]; rfl, by rw [World.cell?_alloc_new]; rfl, by rw [World.cell?_alloc_new]; rfl⟩
  rw [← hw0] at B0
  have hA0 := hA.below B0.1
  rw [hw0] at hk0 B0 hA0
  clear hw0
  obtain ⟨E0, hE0⟩ : ∃ E, mnE n = E := ⟨_, rfl⟩
  have HE0 : Hid (mnE n = E0) := hE0
  clear hE0
  have n1 : (n : Int) ≤ (n : Int) + 1 := by omega
  have hWn := wiL_len B n y
  go_enter Try.func5, Try.ntmps5
  go_wp2_with (first | (go_at_call 15; (with_reducible refine (lent_s sa n cap B _ hA0 hr).mono ?_); rintro e w1 ⟨g, c, rfl, hg, hc, hcm, hL, hgl, hb1⟩; have B1 := bl_trans B0 hb1; have hcz : (n : Int) ≤ (c : Int) := (by omega); have hk1 := hk0.bel hb1; obtain ⟨k0, k1, k2, k3⟩ := hk1; have hA1 := hA.below B1.1) | (go_at_call 20; (with_reducible refine (rwith_any sa n cap B y w1 hA1).mono ?_); rintro e w2 ⟨vW, rfl, hOW, hb2⟩; rw [HE0.out]; have B2 := bl_trans B1 hb2; have hrW := own_row hOW; have hL2 := hL.below hb2.1; have hgl2 := Nat.lt_of_lt_of_le hgl hb2.size))
  have hky : Bk w2 w.heap.size y := ⟨keepB hb2 k0, keepB hb2 k1, keepB hb2 k2, keepB hb2 k3⟩
  have hwi : ∀ W, Bel w2 W → Calls Try.prog 11 #[.slice (some ⟨g, 0, none⟩) n c, .agg #[.float .f64 y.1, .float .f64 y.2.1, .float .f64 y.2.2.1, .float .f64 y.2.2.2]] W fun e w' => ∃ v, e = .returned (.tuple #[v, .int .i64 E0]) ∧ OwnR 1 w2.heap.size w' v (wiL B n y).length (iRow (wiL B n y)) ∧ Bel W w' := fun W hb => by
    refine (with_any (some ⟨g, 0, none⟩) n c B y W (.inr ⟨g, 0, rfl, hL2.1.bel hb, Nat.lt_of_lt_of_le hgl2 hb.size⟩)).mono ?_
    rintro e w' ⟨v, rfl, h1, h2⟩
    rw [HE0.out]
    exact ⟨v, rfl, h1.base hb.size, h2⟩
  refine wp_region_mono 11 rfl (fun i W v => match i with | 0 => v = .slice (some ⟨g, 0, none⟩) (n + 1) c | 1 => v = .slice sa n cap | 2 => v = .int .i64 (n : Int) | 3 => v = .slice (some ⟨g, 0, none⟩) n c | 4 => v = .agg #[.float .f64 y.1, .float .f64 y.2.1, .float .f64 y.2.2.1, .float .f64 y.2.2.2] | 5 => ∃ V, v = .tuple #[V, .int .i64 E0] ∧ OwnR 1 w2.heap.size W V (wiL B n y).length (iRow (wiL B n y)) | 6 => ∃ V, v = .tuple #[V, .int .i64 E0] ∧ OwnR 1 w2.heap.size W V (wiL B n y).length (iRow (wiL B n y)) | 7 => ∃ V, v = V ∧ OwnR 1 w2.heap.size W V (wiL B n y).length (iRow (wiL B n y)) | 8 => v = .int .i64 E0 | 9 => ∃ V, v = V ∧ OwnR 1 w2.heap.size W V (wiL B n y).length (iRow (wiL B n y)) | 10 => v = .int .i64 E0 | _ => False) ?A_wz (by kernel_rfl) (by kernel_rfl) ?hA_wz ?hmo_wz ?hq_wz ?ht_wz
  case hA_wz =>
    intro s
    simp only [putL, dstO, Act.put, List.getElem?_toArray, List.getElem?_cons_zero, List.getElem?_cons_succ, Option.bind_some, List.setIfInBounds_toArray, List.set_cons_zero, List.set_cons_succ, if_true]
    all_goals exact rfl
  case hmo_wz =>
    intro i W W' v hi hb h
    rcases (show i = 0 ∨ i = 1 ∨ i = 2 ∨ i = 3 ∨ i = 4 ∨ i = 5 ∨ i = 6 ∨ i = 7 ∨ i = 8 ∨ i = 9 ∨ i = 10 by omega) with rfl | rfl | rfl | rfl | rfl | rfl | rfl | rfl | rfl | rfl | rfl
    all_goals first | exact h | (obtain ⟨V, e, o⟩ := h; exact ⟨V, e, OwnR.bel o hb⟩)
  case hq_wz =>
    intro i o hi ho s W hs hb K hK
    obtain ⟨y0, y1, y2, y3⟩ := hky.bel hb
    rcases (show i = 0 ∨ i = 1 ∨ i = 2 ∨ i = 3 ∨ i = 4 ∨ i = 5 ∨ i = 6 ∨ i = 7 ∨ i = 8 ∨ i = 9 ∨ i = 10 by omega) with rfl | rfl | rfl | rfl | rfl | rfl | rfl | rfl | rfl | rfl | rfl
    · cases ho
      simp only [Act.put, List.setIfInBounds_toArray, List.set_cons_zero, List.set_cons_succ] at hK
      clear hs
      go_simp
      all_goals (try go_wp2_with (first | (go_at_call 11; (with_reducible refine (hwi _ hb).mono ?_); rintro e w' ⟨V9, rfl, hO9, hb9⟩)))
      all_goals first | (exact hK.out _ _ ⟨V9, rfl, hO9⟩ hb9) | (exact hK.out _ _ ⟨V5, rfl, o5⟩ (bl_refl _)) | (exact hK.out _ _ ⟨V6, rfl, o6⟩ (bl_refl _)) | (exact hK.out _ _ ⟨V7, rfl, o7⟩ (bl_refl _)) | exact hK.out _ _ rfl (bl_refl _) | exact hK.out _ _ rfl (by assumption) | exact hK.out _ _ (by assumption) (by assumption)
    · cases ho
      simp only [Act.put, List.setIfInBounds_toArray, List.set_cons_zero, List.set_cons_succ] at hK
      clear hs
      go_simp
      all_goals (try go_wp2_with (first | (go_at_call 11; (with_reducible refine (hwi _ hb).mono ?_); rintro e w' ⟨V9, rfl, hO9, hb9⟩)))
      all_goals first | (exact hK.out _ _ ⟨V9, rfl, hO9⟩ hb9) | (exact hK.out _ _ ⟨V5, rfl, o5⟩ (bl_refl _)) | (exact hK.out _ _ ⟨V6, rfl, o6⟩ (bl_refl _)) | (exact hK.out _ _ ⟨V7, rfl, o7⟩ (bl_refl _)) | exact hK.out _ _ rfl (bl_refl _) | exact hK.out _ _ rfl (by assumption) | exact hK.out _ _ (by assumption) (by assumption)
    · cases ho
      have e1 : s 1 = _ := hs 1 (by decide) (by kernel_rfl)
      simp only [e1] at hK ⊢
      simp only [Act.put, List.setIfInBounds_toArray, List.set_cons_zero, List.set_cons_succ] at hK
      clear hs
      go_simp
      all_goals (try go_wp2_with (first | (go_at_call 11; (with_reducible refine (hwi _ hb).mono ?_); rintro e w' ⟨V9, rfl, hO9, hb9⟩)))
      all_goals first | (exact hK.out _ _ ⟨V9, rfl, hO9⟩ hb9) | (exact hK.out _ _ ⟨V5, rfl, o5⟩ (bl_refl _)) | (exact hK.out _ _ ⟨V6, rfl, o6⟩ (bl_refl _)) | (exact hK.out _ _ ⟨V7, rfl, o7⟩ (bl_refl _)) | exact hK.out _ _ rfl (bl_refl _) | exact hK.out _ _ rfl (by assumption) | exact hK.out _ _ (by assumption) (by assumption)
    · cases ho
      have e0 : s 0 = _ := hs 0 (by decide) (by kernel_rfl)
      have e2 : s 2 = _ := hs 2 (by decide) (by kernel_rfl)
      simp only [e0, e2] at hK ⊢
      simp only [Act.put, List.setIfInBounds_toArray, List.set_cons_zero, List.set_cons_succ] at hK
      clear hs
      go_simp
      all_goals (try go_wp2_with (first | (go_at_call 11; (with_reducible refine (hwi _ hb).mono ?_); rintro e w' ⟨V9, rfl, hO9, hb9⟩)))
      all_goals first | (exact hK.out _ _ ⟨V9, rfl, hO9⟩ hb9) | (exact hK.out _ _ ⟨V5, rfl, o5⟩ (bl_refl _)) | (exact hK.out _ _ ⟨V6, rfl, o6⟩ (bl_refl _)) | (exact hK.out _ _ ⟨V7, rfl, o7⟩ (bl_refl _)) | exact hK.out _ _ rfl (bl_refl _) | exact hK.out _ _ rfl (by assumption) | exact hK.out _ _ (by assumption) (by assumption)
    · cases ho
      simp only [Act.put, List.setIfInBounds_toArray, List.set_cons_zero, List.set_cons_succ] at hK
      clear hs
      go_simp
      all_goals (try go_wp2_with (first | (go_at_call 11; (with_reducible refine (hwi _ hb).mono ?_); rintro e w' ⟨V9, rfl, hO9, hb9⟩)))
      all_goals first | (exact hK.out _ _ ⟨V9, rfl, hO9⟩ hb9) | (exact hK.out _ _ ⟨V5, rfl, o5⟩ (bl_refl _)) | (exact hK.out _ _ ⟨V6, rfl, o6⟩ (bl_refl _)) | (exact hK.out _ _ ⟨V7, rfl, o7⟩ (bl_refl _)) | exact hK.out _ _ rfl (bl_refl _) | exact hK.out _ _ rfl (by assumption) | exact hK.out _ _ (by assumption) (by assumption)
    · cases ho
      have e3 : s 3 = _ := hs 3 (by decide) (by kernel_rfl)
      have e4 : s 4 = _ := hs 4 (by decide) (by kernel_rfl)
      simp only [e3, e4] at hK ⊢
      simp only [Act.put, List.setIfInBounds_toArray, List.set_cons_zero, List.set_cons_succ] at hK
      clear hs
      go_simp
      all_goals (try go_wp2_with (first | (go_at_call 11; (with_reducible refine (hwi _ hb).mono ?_); rintro e w' ⟨V9, rfl, hO9, hb9⟩)))
      all_goals first | (exact hK.out _ _ ⟨V9, rfl, hO9⟩ hb9) | (exact hK.out _ _ ⟨V5, rfl, o5⟩ (bl_refl _)) | (exact hK.out _ _ ⟨V6, rfl, o6⟩ (bl_refl _)) | (exact hK.out _ _ ⟨V7, rfl, o7⟩ (bl_refl _)) | exact hK.out _ _ rfl (bl_refl _) | exact hK.out _ _ rfl (by assumption) | exact hK.out _ _ (by assumption) (by assumption)
    · cases ho
      obtain ⟨V5, e5, o5⟩ := hs 5 (by decide) (by kernel_rfl)
      simp only [e5] at hK ⊢
      simp only [Act.put, List.setIfInBounds_toArray, List.set_cons_zero, List.set_cons_succ] at hK
      clear hs
      go_simp
      all_goals (try go_wp2_with (first | (go_at_call 11; (with_reducible refine (hwi _ hb).mono ?_); rintro e w' ⟨V9, rfl, hO9, hb9⟩)))
      all_goals first | (exact hK.out _ _ ⟨V9, rfl, hO9⟩ hb9) | (exact hK.out _ _ ⟨V5, rfl, o5⟩ (bl_refl _)) | (exact hK.out _ _ ⟨V6, rfl, o6⟩ (bl_refl _)) | (exact hK.out _ _ ⟨V7, rfl, o7⟩ (bl_refl _)) | exact hK.out _ _ rfl (bl_refl _) | exact hK.out _ _ rfl (by assumption) | exact hK.out _ _ (by assumption) (by assumption)
    · cases ho
      obtain ⟨V6, e6, o6⟩ := hs 6 (by decide) (by kernel_rfl)
      simp only [e6] at hK ⊢
      simp only [Act.put, List.setIfInBounds_toArray, List.set_cons_zero, List.set_cons_succ] at hK
      clear hs
      go_simp
      all_goals (try go_wp2_with (first | (go_at_call 11; (with_reducible refine (hwi _ hb).mono ?_); rintro e w' ⟨V9, rfl, hO9, hb9⟩)))
      all_goals first | (exact hK.out _ _ ⟨V9, rfl, hO9⟩ hb9) | (exact hK.out _ _ ⟨V5, rfl, o5⟩ (bl_refl _)) | (exact hK.out _ _ ⟨V6, rfl, o6⟩ (bl_refl _)) | (exact hK.out _ _ ⟨V7, rfl, o7⟩ (bl_refl _)) | exact hK.out _ _ rfl (bl_refl _) | exact hK.out _ _ rfl (by assumption) | exact hK.out _ _ (by assumption) (by assumption)
    · cases ho
      obtain ⟨V6, e6, o6⟩ := hs 6 (by decide) (by kernel_rfl)
      simp only [e6] at hK ⊢
      simp only [Act.put, List.setIfInBounds_toArray, List.set_cons_zero, List.set_cons_succ] at hK
      clear hs
      go_simp
      all_goals (try go_wp2_with (first | (go_at_call 11; (with_reducible refine (hwi _ hb).mono ?_); rintro e w' ⟨V9, rfl, hO9, hb9⟩)))
      all_goals first | (exact hK.out _ _ ⟨V9, rfl, hO9⟩ hb9) | (exact hK.out _ _ ⟨V5, rfl, o5⟩ (bl_refl _)) | (exact hK.out _ _ ⟨V6, rfl, o6⟩ (bl_refl _)) | (exact hK.out _ _ ⟨V7, rfl, o7⟩ (bl_refl _)) | exact hK.out _ _ rfl (bl_refl _) | exact hK.out _ _ rfl (by assumption) | exact hK.out _ _ (by assumption) (by assumption)
    · cases ho
      obtain ⟨V7, e7, o7⟩ := hs 7 (by decide) (by kernel_rfl)
      simp only [e7] at hK ⊢
      simp only [Act.put, List.setIfInBounds_toArray, List.set_cons_zero, List.set_cons_succ] at hK
      clear hs
      go_simp
      all_goals (try go_wp2_with (first | (go_at_call 11; (with_reducible refine (hwi _ hb).mono ?_); rintro e w' ⟨V9, rfl, hO9, hb9⟩)))
      all_goals first | (exact hK.out _ _ ⟨V9, rfl, hO9⟩ hb9) | (exact hK.out _ _ ⟨V5, rfl, o5⟩ (bl_refl _)) | (exact hK.out _ _ ⟨V6, rfl, o6⟩ (bl_refl _)) | (exact hK.out _ _ ⟨V7, rfl, o7⟩ (bl_refl _)) | exact hK.out _ _ rfl (bl_refl _) | exact hK.out _ _ rfl (by assumption) | exact hK.out _ _ (by assumption) (by assumption)
    · cases ho
      have e8 : s 8 = _ := hs 8 (by decide) (by kernel_rfl)
      simp only [e8] at hK ⊢
      simp only [Act.put, List.setIfInBounds_toArray, List.set_cons_zero, List.set_cons_succ] at hK
      clear hs
      go_simp
      all_goals (try go_wp2_with (first | (go_at_call 11; (with_reducible refine (hwi _ hb).mono ?_); rintro e w' ⟨V9, rfl, hO9, hb9⟩)))
      all_goals first | (exact hK.out _ _ ⟨V9, rfl, hO9⟩ hb9) | (exact hK.out _ _ ⟨V5, rfl, o5⟩ (bl_refl _)) | (exact hK.out _ _ ⟨V6, rfl, o6⟩ (bl_refl _)) | (exact hK.out _ _ ⟨V7, rfl, o7⟩ (bl_refl _)) | exact hK.out _ _ rfl (bl_refl _) | exact hK.out _ _ rfl (by assumption) | exact hK.out _ _ (by assumption) (by assumption)
  case ht_wz =>
    intro s w3 hs hb
    have e0 : s 0 = _ := hs 0 (by decide)
    have e1 : s 1 = _ := hs 1 (by decide)
    have e2 : s 2 = _ := hs 2 (by decide)
    have e3 : s 3 = _ := hs 3 (by decide)
    have e4 : s 4 = _ := hs 4 (by decide)
    obtain ⟨V5, e5, o5⟩ := hs 5 (by decide)
    obtain ⟨V6, e6, o6⟩ := hs 6 (by decide)
    obtain ⟨V7, e7, o7⟩ := hs 7 (by decide)
    have e8 : s 8 = _ := hs 8 (by decide)
    obtain ⟨vX, e9, o9⟩ := hs 9 (by decide)
    have e10 : s 10 = _ := hs 10 (by decide)
    simp only [e0, e1, e2, e3, e4, e5, e6, e7, e8, e9, e10]
    clear hs e0 e1 e2 e3 e4 e5 e6 e7 e8 e9 e10
    have B3 := bl_trans B2 hb
    have hrX := own_row o9
    have hL3 := hL2.below hb.1
    have hgl3 := Nat.lt_of_lt_of_le hgl2 hb.size
    replace hrW := hrW.below hb.1
    have hA3 := hA.below B3.1
    go_upto_region 7 with (first | (go_at_call 21; (with_reducible refine (rord_any sa n cap B w3 hA3).mono ?_); rintro e w4 ⟨vO, O, rfl, hRO, hOO, hb4⟩; rw [HE0.out]; have B4 := bl_trans B3 hb4; have hL4 := hL3.below hb4.1; have hgl4 := Nat.lt_of_lt_of_le hgl3 hb4.size; replace hrW := hrW.below hb4.1; replace hrX := hrX.below hb4.1; have hrO := own_row hOO; have HRO := hide hRO; have aB4 : AnyB w4 (some ⟨g, 0, none⟩) n B := .inr ⟨g, 0, rfl, hL4.1, hgl4⟩) | (go_at_call 12; first | (have zn := mY; clear zn; (with_reducible refine (ord_any (some ⟨g, 0, none⟩) n c B w5 aB5).mono ?_); rintro e w6 ⟨vZ, O2, rfl, hRZ, hOZ, hb6, hbe6⟩; rw [HE0.out]; have e2 := ordR_uniq hRZ HRO.out; subst e2; replace hrW := hrW.below hb6; replace hrX := hrX.below hb6; replace hrO := hrO.below hb6; replace hrY := hrY.below hb6; have hrZ := own_row hOZ; have hL6 := hL5.below hb6; have L6 := bw_trans L5 hb6) | ((with_reducible refine (ord_any (some ⟨g, 0, none⟩) n c B w4 aB4).mono ?_); rintro e w5 ⟨vY, O1, rfl, hRY, hOY, hb5, hbe5⟩; rw [HE0.out]; have e1 := ordR_uniq hRY HRO.out; subst e1; have mY := hide True.intro; have L5 := bw_trans B4.1 hb5; replace hrW := hrW.below hb5; replace hrX := hrX.below hb5; replace hrO := hrO.below hb5; have hrY := own_row hOY; have hL5 := hL4.below hb5; have hgl5 := Nat.lt_of_lt_of_le hgl4 hb5.size; have aB5 : AnyB w5 (some ⟨g, 0, none⟩) n B := .inr ⟨g, 0, rfl, hL5.1, hgl5⟩)))
    have hA6 := hA.below L6
    have hsz4 : w.heap.size ≤ w4.heap.size := B4.size
    have hsz5 : w4.heap.size ≤ w5.heap.size := hb5.size
    have hsz6 : w5.heap.size ≤ w6.heap.size := hb6.size
    have hlX : (wiL B n y).length < 4611686018427387904 := by omega
    have hlO : O2.length < 4611686018427387904 := by
      have := ordR_len HRO.out
      omega
    by_cases hO2 : O2 = []
    · subst hO2
      obtain ⟨sy, cy, rfl⟩ := own_len1 hOY
      obtain ⟨sz, cz, rfl⟩ := own_len1 hOZ
      obtain ⟨so, co, rfl⟩ := own_len1 hOO
      have hOY6 := hOY.bel (hbe6 rfl)
      clear hOY hOZ hOO hbe5 hbe6 HRO hRY hRZ
      have HX : Hid _ := hlX
      clear hlX hlO
      simp only [List.length_nil] at hOY6 hrY hrO hrZ ⊢
      go_wp2_with (first | (go_at_call 22; first | (have zn := mS1; clear zn; have r1 := hrY.below hb7.1; have r2 := hrO.below hb7.1; (with_reducible refine (sameI_s [] _ _ w7 r1 r2 (by decide)).mono ?_); rintro e w8 ⟨rfl, hb8⟩) | ((with_reducible refine (sameI_s (wiL B n y) vX vW w6 hrX hrW HX.out).mono ?_); rintro e w7 ⟨rfl, hb7⟩; have mS1 := hide True.intro)) | (go_at_call 18; have hL8 := (hL6.below hb7.1).below hb8.1; have hA8 := (hA6.below hb7.1).below hb8.1; (with_reducible refine (kept_s g c sa n cap B w8 hL8 hA8 ho hr).mono ?_); rintro e w9 ⟨rfl, hb9⟩; have B9 := bl_trans hb7 (bl_trans hb8 hb9); have L9 := bw_trans L6 B9.1; have hOY9 := hOY6.bel B9; have hs9 := B9.size))
      go_loopg [16] 0 (fun kx s16 wr => s16 = .int .i64 0 ∧ wr = w9)
      case atStart => exact ⟨rfl, rfl⟩
      case round =>
        obtain ⟨rfl, hwr⟩ := hrel
        subst hwr
        have own9 := hOY9.bel (bl_alloc (bl_refl wr) #[.int .i64 (-2)] 3)
        go_wp2_with (first | (at_builtin; refine wpList_appS (P := Try.prog) (sz := 1) (by_ := 8) (R := []) (N := [.int .i64 (-2)]) 33 3 rfl _ _ rfl Try.underlying33 info_int rfl rfl _ 0 1 1 rfl own9 rfl (mk_rw _ [.int .i64 (-2)] 3) (by intro u hu; simp only [List.mem_cons, List.not_mem_nil, or_false] at hu; subst hu; rfl) (by decide) (by simp only [World.size_alloc]; omega) (by unfold maxLen; omega) (by omega) ?_; intro v2 w10 hO10 hv2 hbX hoth hlow; obtain ⟨g6, c6, rfl, hg6⟩ := hv2; have L10 := (L9.alloc L9.size (.cells #[.int .i64 (-2)] 3)).trans (hlow w.heap.size hsz4)) | (go_at_call 22; have r3 : IRow w10 (.slice sz 0 cz) [] := ⟨sz, cz, rfl, .inl rfl⟩; have r4 : IRow w10 (.slice so 0 co) [] := ⟨so, co, rfl, .inl rfl⟩; (with_reducible refine (sameI_s [] _ _ w10 r3 r4 (by decide)).mono ?_); rintro e w11 ⟨rfl, hb11⟩))
        go_ret
        exact ⟨by first | rfl | simp, bw_trans L10 hb11.1⟩
    · have hN0 : 0 < O2.length := by
        cases O2 with
        | nil => exact absurd rfl hO2
        | cons a l => exact Nat.succ_pos _
      obtain ⟨N, hN⟩ : ∃ N, O2.length = N := ⟨_, rfl⟩
      have hN16 := ordR_16 HRO.out
      rw [hN] at hN16
      have hOY6 : OwnR 1 w4.heap.size w6 vY O2.length (iRow O2) := by
        rcases hOY.below hb6 (by decide) with h | h
        · exact h
        · omega
      rw [hN] at hOY6 hN0 hlO
      rcases own_split hOY6 (by decide) with ⟨h0, _⟩ | ⟨_, gy, cy, rfl, hgy, hgy6, hcy⟩
      · omega
      have hgy5 : gy < w5.heap.size := by
        rcases own_split hOY (by decide) with ⟨h0, _⟩ | ⟨_, g', c', e, _, h2, _⟩
        · omega
        · injection e with e1 _ _
          injection e1 with e1
          injection e1 with e1 _ _
          rw [e1]; exact h2
      rcases own_split hOZ (by decide) with ⟨h0, _⟩ | ⟨_, gz, cz, e, hgz, hgz6, _⟩
      · omega
      subst e
      have hIZ := own_is hOZ
      rcases own_split hOO (by decide) with ⟨h0, _⟩ | ⟨_, go_, co, e, _, hgo4, _⟩
      · omega
      subst e
      have hIO := own_is hOO
      have hIO6 : Is w6 go_ 0 O2 := fun k r hk => below_get (hb5.trans (hb6.mono hsz5)) hgo4 (hIO k r hk)
      rw [hN] at hrO hrZ ⊢
      clear hOY hOZ hOO hbe5 hbe6 HRO hRY hRZ hIO hO2
      have HX : Hid _ := hlX
      have HN : Hid (O2.length = N) := hN
      clear hlX hN
      have hlO' : O2.length < 4611686018427387904 := by rw [HN.out]; exact hlO
      have HLO : Hid _ := hlO'
      clear hlO'
      go_wp2_with (first | (go_at_call 22; first | (have zn := mS1; clear zn; have r1 := hrY.below hb7.1; have r2 := hrO.below hb7.1; (with_reducible refine (sameI_s O2 _ _ w7 r1 r2 HLO.out).mono ?_); rintro e w8 ⟨rfl, hb8⟩) | ((with_reducible refine (sameI_s (wiL B n y) vX vW w6 hrX hrW HX.out).mono ?_); rintro e w7 ⟨rfl, hb7⟩; have mS1 := hide True.intro)) | (go_at_call 18; have hL8 := (hL6.below hb7.1).below hb8.1; have hA8 := (hA6.below hb7.1).below hb8.1; (with_reducible refine (kept_s g c sa n cap B w8 hL8 hA8 ho hr).mono ?_); rintro e w9 ⟨rfl, hb9⟩; have B9 := bl_trans hb7 (bl_trans hb8 hb9); have L9 := bw_trans L6 B9.1; have hOY9 := hOY6.bel B9; have hs9 := B9.size))
      have hIZ9 := hIZ.bel B9
      have hIO9 := hIO6.bel B9
      go_loopg [16] N (fun kx s16 wr => ∃ (k : Nat) (R : List Value), s16 = .int .i64 k ∧ k ≤ N ∧ N - k ≤ kx ∧ OwnR 1 w4.heap.size wr (.slice (some ⟨gy, 0, none⟩) N cy) N R ∧ Below w.heap.size w wr ∧ wr.heap.size = w9.heap.size ∧ Hid (∀ c o, c ≠ gy → wr.cell? ⟨c, o, none⟩ = w9.cell? ⟨c, o, none⟩))
      case atStart => exact ⟨0, iRow O2, rfl, Nat.zero_le _, Nat.le_refl _, hOY9, L9, rfl, fun _ _ _ => rfl⟩
      case round =>
        clear hOY9
        obtain ⟨k, R, rfl, hk, hkx, hOr, hLr, hsr, hCr⟩ := hrel
        have hsw : w4.heap.size ≤ wr.heap.size := by omega
        have HSR : Hid _ := hsr
        clear hsr
        by_cases hlt : k < N
        · have hltz : (k : Int) < (N : Int) := by omega
          have hwk : IntKind.wrap .i64 ((k : Int) + 1) = (k : Int) + 1 := by rw [IntKind.wrap_i64]; omega
          obtain ⟨p1, p2, p3, p4, p5, p6⟩ := own_parts hOr
          obtain ⟨u0, hu0⟩ := Option.isSome_iff_exists.1 (p5 k (by omega))
          have f0 := p6 k
          have hO5 := own_set hOr hlt (v := .int .i64 (-1))
          have HO5 : Aside _ := hO5
          have HL5 : Aside _ := hLr.setCell (p := ⟨gy, k, none⟩) (show w.heap.size ≤ gy by omega) (.int .i64 (-1))
          clear p4 p5 p6 hO5
          go_wp2
          go_roundg (N - (k + 1))
          case measure => omega
          case rel => exact ⟨k + 1, _, by go_num, by omega, Nat.le_refl _, HO5.out, HL5.out, by rw [World.size_setCell]; exact HSR.out, fun c o hc => (World.cell?_setCell_other _ _ _ _ (by intro e'; injection e' with e1 _ _; exact hc e1.symm)).trans (hCr.out c o hc)⟩
        · have hltz : ¬ (k : Int) < (N : Int) := by omega
          have own9 := hOr.bel (bl_alloc (bl_refl wr) #[.int .i64 (-2)] 3)
          have hcm : cy ≤ maxLen := (own_parts hOr).2.2.1
          go_wp2_with (first | (at_builtin; refine wpList_appS (P := Try.prog) (sz := 1) (by_ := 8) (R := R) (N := [.int .i64 (-2)]) 33 3 rfl _ _ rfl Try.underlying33 info_int rfl rfl _ 0 1 1 rfl own9 rfl (mk_rw _ [.int .i64 (-2)] 3) (by intro u hu; simp only [List.mem_cons, List.not_mem_nil, or_false] at hu; subst hu; rfl) (by decide) (by simp only [World.size_alloc]; omega) (by unfold maxLen; omega) (by omega) ?_; intro v2 w10 hO10 hv2 hbX hoth hlow; obtain ⟨g6, c6, rfl, hg6⟩ := hv2; have L10 := (hLr.alloc hLr.size (.cells #[.int .i64 (-2)] 3)).trans (hlow w.heap.size hsz4); have hI10 := keepIs hoth hCr.out HSR.out hIZ9 (show gz ≠ gy by omega) (show gz < w9.heap.size by omega); have hJ10 := keepIs hoth hCr.out HSR.out hIO9 (show go_ ≠ gy by omega) (show go_ < w9.heap.size by omega)) | (go_at_call 22; have r3 : IRow w10 (.slice (some ⟨gz, 0, none⟩) N cz) O2 := ⟨_, cz, (by rw [HN.out]), .inr ⟨gz, 0, rfl, hI10⟩⟩; have r4 : IRow w10 (.slice (some ⟨go_, 0, none⟩) N co) O2 := ⟨_, co, (by rw [HN.out]), .inr ⟨go_, 0, rfl, hJ10⟩⟩; (with_reducible refine (sameI_s O2 _ _ w10 r3 r4 HLO.out).mono ?_); rintro e w11 ⟨rfl, hb11⟩))
          go_ret
          exact ⟨by first | rfl | simp, bw_trans L10 hb11.1⟩

/-- a row of boxes: none, or len of them in cells, with room for cap -/
def IsBoxes (w : World) (a : Option Addr) (len cap : Nat) : Prop :=
  (a = none ∧ len = 0 ∧ cap = 0) ∨ ∃ (x : Addr) (B : Nat → Bo), a = some x ∧ len ≤ cap ∧ cap ≤ maxLen ∧ len * 32 ≤ 140737488351232 ∧ ∀ i, i < len → w.cell? (x.add (i * 4)) = some (.float .f64 (B i).1) ∧ w.cell? (x.add (i * 4 + 1)) = some (.float .f64 (B i).2.1) ∧ w.cell? (x.add (i * 4 + 2)) = some (.float .f64 (B i).2.2.1) ∧ w.cell? (x.add (i * 4 + 3)) = some (.float .f64 (B i).2.2.2) ∧ okK .f64 (B i).1 ∧ okK .f64 (B i).2.1 ∧ okK .f64 (B i).2.2.1 ∧ okK .f64 (B i).2.2.2
theorem any_of {w : World} {a : Option Addr} {len cap : Nat} (h : IsBoxes w a len cap) : ∃ B, AnyB w a len B ∧ len * 32 ≤ 140737488351232 ∧ ∀ i, i < len → okK .f64 (B i).1 ∧ okK .f64 (B i).2.1 ∧ okK .f64 (B i).2.2.1 ∧ okK .f64 (B i).2.2.2 := by
  rcases h with ⟨rfl, rfl, rfl⟩ | ⟨x, B, rfl, hl, hm, hr, hcell⟩
  · exact ⟨fun _ => (0, 0, 0, 0), .inl rfl, by omega, fun i hi => by omega⟩
  · refine ⟨B, ?_, hr, fun i hi => (hcell i hi).2.2.2.2⟩
    rcases Nat.eq_zero_or_pos len with h0 | h0
    · exact .inl h0
    · right
      obtain ⟨b, off, spot⟩ := x
      have hspot : spot = none := by simpa [Addr.add] using World.cell?_spot (hcell 0 h0).1
      subst hspot
      have hc0 := (hcell 0 h0).1
      rw [add_plain] at hc0
      refine ⟨b, off, rfl, fun i hi => ?_, World.block_lt_of_cell? _ _ hc0⟩
      obtain ⟨h1, h2, h3, h4, _⟩ := hcell i hi
      rw [add_plain] at h1 h2 h3 h4
      rw [← Nat.add_assoc] at h2 h3 h4
      exact ⟨h1, h2, h3, h4⟩
theorem walk (a0 : Option Addr) (len0 cap0 : Nat) (lx1 ly1 hx1 hy1 : Nat) (w : World) (h0 : IsBoxes w a0 len0 cap0) :
    Calls Try.prog 5 #[.slice a0 len0 cap0, .agg #[.float .f64 lx1, .float .f64 ly1, .float .f64 hx1, .float .f64 hy1]] w fun e w' => e = .returned (.bool true) ∧ Below w.heap.size w w' := by
  obtain ⟨B0, g0, r0, o0⟩ := any_of h0
  exact walk_any a0 len0 cap0 B0 (lx1, ly1, hx1, hy1) w g0 r0 o0

set_option maxRecDepth 100000 in
theorem lifted (os : Os) (started : os.Started) (H : Type) (enc : TypeId × Value → H) :
    ReturnsInHanded {} Try.checked os 5 .any (Rows.sweepWithSpec.pre6 enc Try.prog Try.f5 Rows.sweepWithRow.domain false) (Rows.sweepWithSpec.post enc Try.prog Try.f5 false true false false) := by
  refine returnsInHanded_of_change_sized (C := Try.checked) own started (by kernel_rfl) Try.func5
    (ChangeSpec.witness6 (enc := enc) (C := Try.checked) false ⟨#[], #[.slice none 0 0, .agg #[.float .f64 0, .float .f64 0, .float .f64 0, .float .f64 0]], []⟩ 8 (by kernel_rfl) (by kernel_rfl) (by kernel_rfl) (by kernel_rfl)) ?_
  intro W base args ds gs before hval0 hW hcnd hsz0 _
  have hsz : (DataW.weightsEach Try.prog (Try.f5.params.toList ++ Rows.sweepWithSpec.plain.varTypes Try.prog) (ds ++ gs)).all (· ≤ reachBytes) = true := hsz0
  have hval : ∀ (j : Nat) t v, Try.f5.params[j]? = some t → args[j]? = some v → Value.okWide Try.prog W .any base t v := hval0
  have hW' := hW
  obtain ⟨p, q, hA0, hV, rfl, hfz, hnd⟩ := hW
  have hA : DataW.TrodAll enc Try.prog W 0 (fun _ => true) true Try.f5.params.toList args.toList ds p := hA0
  rw [Try.params5] at hA hval hsz
  obtain ⟨v0, vs0, d0, ds0, p0, q0, hargs, rfl, rfl, h0, r0⟩ := trodAll_cons hA
  obtain ⟨v1, vs1, d1, ds1, p1, q1, rfl, rfl, rfl, h1, r1⟩ := trodAll_cons r0
  obtain ⟨rfl, rfl, rfl⟩ := trodAll_nil r1
  obtain rfl : args = #[v0, v1] := by cases args; simp_all
  obtain ⟨rfl, rfl⟩ := trodVars_none hV
  obtain ⟨a0, len0, cap0, rfl⟩ := okWide_slice Try.underlying22 (hval 0 22 v0 rfl rfl)
  obtain ⟨lx1, ly1, hx1, hy1, rfl, rfl, rfl, wlx1, wly1, whx1, why1⟩ := open_box (hval 1 27 v1 rfl rfl) h1
  have k0 := h0
  have lt0 : ∀ x ∈ p0, x.block < W.heap.size := by obtain ⟨m, hm⟩ := k0; exact DataW.trod_lt m _ _ _ hm
  have w0 : IsBoxes W a0 len0 cap0 := by
    obtain ⟨fuel, hf⟩ := h0
    rcases Go.Deep.open_slice Try.underlying22 hf with ⟨hcs, _⟩ | ⟨x, l, c, m, n, D, Pl, hcs, _, hl, hm, hmm, hx, hcell⟩
    · simp [Value.cells] at hcs
      exact .inl hcs
    · simp [Value.cells] at hcs
      obtain ⟨rfl, rfl, rfl⟩ := hcs
      simp only [Prod.mk.injEq] at hx
      obtain ⟨rfl, rfl⟩ := hx
      have hr := sized_slice hsz (j := 0) (t := 22) (e := 27) rfl rfl Try.underlying22
      rw [show Try.prog.bytesOf 27 = 32 by kernel_rfl] at hr
      simp only [List.length_map, List.length_range, reachBytes] at hr
      have hlm : len0 ≤ m := by rw [hmm]; split <;> omega
      have V : ∀ i, ∃ q : Nat × Nat × Nat × Nat, i < m → W.cell? (x.add (i * 4)) = some (.float .f64 q.1) ∧ W.cell? (x.add (i * 4 + 1)) = some (.float .f64 q.2.1) ∧ W.cell? (x.add (i * 4 + 2)) = some (.float .f64 q.2.2.1) ∧ W.cell? (x.add (i * 4 + 3)) = some (.float .f64 q.2.2.2) ∧ okK .f64 q.1 ∧ okK .f64 q.2.1 ∧ okK .f64 q.2.2.1 ∧ okK .f64 q.2.2.2 := by
        intro i
        by_cases hi : i < m
        · obtain ⟨cs', h1, h2⟩ := hcell i hi
          rw [cellsM] at h1
          obtain ⟨_, hlen, hce⟩ := World.cells?_some h1
          obtain ⟨y0, y1, n', hx', _, g0, g1⟩ := trod_struct2 Try.underlying27 h2
          match cs', hlen with
          | [v0, v1, v2, v3], _ =>
            simp [cellsV] at g0 g1
            obtain ⟨z0, z1, n2, hz, _, g4, g5⟩ := trod_struct2 Try.underlying25 g0
            obtain ⟨z2, z3, n3, hz3, _, g6, g7⟩ := trod_struct2 Try.underlying25 g1
            simp [cellsF] at g4 g5 g6 g7
            obtain ⟨a, e0, _, wa⟩ := trod_fl Try.underlying23 g4
            obtain ⟨b, e1, _, wb⟩ := trod_fl Try.underlying23 g5
            obtain ⟨c, e2, _, wc⟩ := trod_fl Try.underlying23 g6
            obtain ⟨d, e3, _, wd⟩ := trod_fl Try.underlying23 g7
            simp at e0 e1 e2 e3
            subst e0 e1 e2 e3
            have q0 := hce 0 (by omega)
            have q1 := hce 1 (by omega)
            have q2 := hce 2 (by omega)
            have q3 := hce 3 (by omega)
            rw [Go.Deep.add_add] at q0 q1 q2 q3
            exact ⟨(a, b, c, d), fun _ => ⟨by simpa using q0, by simpa using q1, by simpa using q2, by simpa using q3, wf_f64 wa, wf_f64 wb, wf_f64 wc, wf_f64 wd⟩⟩
        · exact ⟨(0, 0, 0, 0), fun h => absurd h hi⟩
      have V' := Classical.axiomOfChoice V
      obtain ⟨f, hf'⟩ := V'
      exact .inr ⟨x, f, rfl, hl, hm, by omega, fun i hi => hf' i (by omega)⟩
  clear hA0 hval0 hsz0
  refine (walk a0 len0 cap0 lx1 ly1 hx1 hy1 W w0).mono fun e W' ⟨he, bel0⟩ => ?_
  have bel := bel0
  subst he
  exact ⟨_, rfl, _, _, _, [], _, [], hW', trodAll_mk1 (shut_bool Try.underlying4 _), (trodAll_cons_mk (Below.trod laidOut (by kernel_rfl) (of_decide_eq_true (by kernel_rfl)) k0 bel lt0) (trodAll_cons_mk (shut_box wlx1 wly1 whx1 why1) trodAll_mk0)), rfl, bel.frame _, fun h => by cases h⟩

theorem over : Rows.sweepWithRow.holds Try.pinned (OpenSpec.ofChange Rows.sweepWithSpec) :=
  OpenClaim.holds_of_wide 5 Try.f5 rfl rfl rfl rfl rfl rfl rfl ⟨rfl, rfl, rfl, rfl, rfl⟩ rfl rfl rfl rfl rfl (by kernel_rfl) Try.func5 (by kernel_rfl)
    (of_decide_eq_true (by kernel_rfl)) (by unfold Func.isWrapper; first | (rw [if_pos (by decide +kernel)]; kernel_rfl) | (rw [if_neg (by decide +kernel)]; exact ⟨rfl, rfl⟩))
    (fun os started H enc _ => lifted os started H enc)

theorem proved : Rows.SweepWithSaid :=
  over
#print axioms proved
end Go.Proofs.Ytkkncipimbpkkaa.sweepWith
