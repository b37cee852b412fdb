/-
  'tumblelaw14.GridWiths' is true of all rows of boxes.
-/
import Derived.Test.YtekhnolpgoejdaaGreatRows
import Derived.Test.YtekhnolpgoejdaaGreatGv
import Derived.WalkKit
import Derived.ProofKit
import Derived.OpenShut
import Derived.WalkLawsBesides
import Derived.WalkSpells
import Derived.Lib.SmallJoins
import Derived.Laws.Cover2
import Derived.Laws.AppendOwn
import Derived.Laws.OwnMore
import Derived.Laws.AppendOwnNone
import Derived.Deep.RegionHeld3
import Derived.Deep.RegionWith
import Derived.Deep.SlicePairs
import Derived.Deep.Strs
import Derived.SizedLaws
import Derived.Below
import Derived.Deep.DeepCutAuto
import Derived.Laws.StructEq
namespace Go.Proofs.YtekhnolpgoejdaaGreat.gridWiths
open Go.ChangeShapes Go.WideShapes Go.ChangeAt Go.RowKit Go.Joins Go.Sort
set_option linter.unusedVariables false
set_option linter.unusedSimpArgs false

theorem own : ownKnob Tryz.prog.godebug = none := by kernel_rfl
theorem laidOut : laidOutB Tryz.prog = true := by kernel_rfl
theorem wf_f64 {x : Nat} (h : (Lit.float .f64 x).wf = true) : okK .f64 x := by
  rw [okK64]; simpa [Lit.wf] using h
theorem trod_fl {H : Type} {enc : TypeId × Value → H} {P : Program} {w : World} {base fuel : Nat} {spare : Nat → Bool} {held : Bool} {t : TypeId} {cs : List Value} {x : DataW H × List MemPlace} {k : FloatKind} (ht : P.underlying t = some (.float k)) (h : DataW.trod enc P w base spare held fuel t cs = some x) : ∃ z, cs = [.float k z] ∧ x = (.lit (.float k z), []) ∧ (Lit.float k z).wf = true := by
  cases fuel with
  | zero => simp [DataW.trod] at h
  | succ n =>
    unfold DataW.trod at h
    rw [ht] at h
    split at h <;> simp_all

theorem cellsV : Tryz.prog.cellsOf 35 = 2 := by kernel_rfl
theorem cellsM : Tryz.prog.cellsOf 37 = 4 := by kernel_rfl
theorem cellsF : Tryz.prog.cellsOf 23 = 1 := by kernel_rfl
set_option maxRecDepth 100000 in
theorem open_box {H : Type} {enc : TypeId × Value → H} {w : World} {base : Nat} {spare : Nat → Bool} {held : Bool} {r : Reach} {b0 : Nat} {v : Value} {d : DataW H} {p : List MemPlace}
    (hv : Value.okWide Tryz.prog w r b0 37 v) (h : DataW.Trod enc Tryz.prog w base spare held 37 v d p) :
    ∃ a b c e : Nat, v = .agg #[.float .f64 a, .float .f64 b, .float .f64 c, .float .f64 e] ∧ d = .agg [.agg [.lit (.float .f64 a), .lit (.float .f64 b)], .agg [.lit (.float .f64 c), .lit (.float .f64 e)]] ∧ p = [] ∧
      (Lit.float .f64 a).wf = true ∧ (Lit.float .f64 b).wf = true ∧ (Lit.float .f64 c).wf = true ∧ (Lit.float .f64 e).wf = true := by
  obtain ⟨cs, rfl, hsz⟩ := okWide_struct Tryz.underlying37 hv
  obtain ⟨c0, c1, c2, c3, rfl⟩ := array4 (hsz.trans (by kernel_rfl))
  obtain ⟨fuel, hf⟩ := h
  obtain ⟨y0, y1, n, hx, _, h0, h1⟩ := trod_struct2 Tryz.underlying37 hf
  simp [Value.cells, cellsV] at h0 h1
  obtain ⟨u0, u1, n1, hu, _, h2, h3⟩ := trod_struct2 Tryz.underlying35 h0
  obtain ⟨z0, z1, n2, hz, _, h4, h5⟩ := trod_struct2 Tryz.underlying35 h1
  simp [show Tryz.prog.cellsOf 23 = 1 by kernel_rfl] at h2 h3 h4 h5
  obtain ⟨a, e0, rfl, wa⟩ := trod_fl Tryz.underlying23 h2
  obtain ⟨b, e1, rfl, wb⟩ := trod_fl Tryz.underlying23 h3
  obtain ⟨c, e2, rfl, wc⟩ := trod_fl Tryz.underlying23 h4
  obtain ⟨e, e3, rfl, we⟩ := trod_fl Tryz.underlying23 h5
  simp at e0 e1 e2 e3
  subst e0 e1 e2 e3
  subst hu hz
  simp only [Prod.mk.injEq] at hx
  exact ⟨a, b, c, e, rfl, hx.1, hx.2, wa, wb, wc, we⟩
set_option maxRecDepth 100000 in
theorem shut_box {H : Type} {enc : TypeId × Value → H} {w : World} {base : Nat} {spare : Nat → Bool} {held : Bool} {a b c e : Nat} (wa : (Lit.float .f64 a).wf = true) (wb : (Lit.float .f64 b).wf = true) (wc : (Lit.float .f64 c).wf = true) (we : (Lit.float .f64 e).wf = true) :
    DataW.Trod enc Tryz.prog w base spare held 37 (.agg #[.float .f64 a, .float .f64 b, .float .f64 c, .float .f64 e]) (.agg [.agg [.lit (.float .f64 a), .lit (.float .f64 b)], .agg [.lit (.float .f64 c), .lit (.float .f64 e)]]) [] := by
  have cf : Tryz.prog.cellsOf 23 = 1 := by kernel_rfl
  have tv : ∀ x y : Nat, (Lit.float .f64 x).wf = true → (Lit.float .f64 y).wf = true → DataW.trod enc Tryz.prog w base spare held 2 35 [.float .f64 x, .float .f64 y] = some (.agg [.lit (.float .f64 x), .lit (.float .f64 y)], []) := fun x y wx wy =>
    trod_struct2_mk (y0 := (.lit (.float .f64 x), [])) (y1 := (.lit (.float .f64 y), [])) Tryz.underlying35 (by simp [cellsV]) (by simp [cf, DataW.trod, Tryz.underlying23, wx]) (by simp [cf, DataW.trod, Tryz.underlying23, wy])
  exact ⟨3, trod_struct2_mk (y0 := (.agg [.lit (.float .f64 a), .lit (.float .f64 b)], [])) (y1 := (.agg [.lit (.float .f64 c), .lit (.float .f64 e)], [])) Tryz.underlying37 (by simp [Value.cells]; kernel_rfl) (by simpa [Value.cells, cellsV] using tv a b wa wb) (by simpa [Value.cells, cellsV] using tv c e wc we)⟩

set_option maxRecDepth 100000 in
set_option maxHeartbeats 16000000 in
theorem walk_any (sa : Option Addr) (n cap : Nat) (B : Nat → Bo) (y : Bo) (d : Nat) (od : okK .f64 d) (w : World) (hA : AnyB w sa n B) (hr : n * 32 ≤ 140737488351232) (ho : ∀ i, i < n → okK .f64 (B i).1 ∧ okK .f64 (B i).2.1 ∧ okK .f64 (B i).2.2.1 ∧ okK .f64 (B i).2.2.2) :
    Calls Tryz.prog 4 #[.slice sa n cap, .agg #[.float .f64 y.1, .float .f64 y.2.1, .float .f64 y.2.2.1, .float .f64 y.2.2.2], .float .f64 d] w fun e w' => e = .returned (.bool true) ∧ Below w.heap.size w w' := by
  obtain ⟨W0, hW0⟩ : ∃ W0, W0 = w.alloc (.cells #[.float .f64 y.1, .float .f64 y.2.1, .float .f64 y.2.2.1, .float .f64 y.2.2.2] 37) := ⟨_, rfl⟩
  have B00 : Bel w W0 := by rw [hW0]; exact bl_alloc (bl_refl w) _ _
  have u0 : W0.cell? ⟨w.heap.size, 0, none⟩ = some (.float .f64 y.1) := by rw [hW0, World.cell?_alloc_new]; rfl
  have u1 : W0.cell? ⟨w.heap.size, 1, none⟩ = some (.float .f64 y.2.1) := by rw [hW0, World.cell?_alloc_new]; rfl
  have u2 : W0.cell? ⟨w.heap.size, 2, none⟩ = some (.float .f64 y.2.2.1) := by rw [hW0, World.cell?_alloc_new]; rfl
  have u3 : W0.cell? ⟨w.heap.size, 3, none⟩ = some (.float .f64 y.2.2.2) := by rw [hW0, World.cell?_alloc_new]; rfl
  have hu : w.heap.size < W0.heap.size := World.block_lt_of_cell? _ _ u0
  have hA0 := hA.below B00.1
  by_cases hn : n ≤ 200
  · have hnz : ¬ (200 : Int) < (n : Int) := by omega
    have hpa := fun (s' : Option Addr) (c' : Nat) (W : World) (h : AnyB W s' n B) => ((with14_s s' n c' d B y W h).mono fun e w' ⟨v, h1, h2, h3, h4⟩ => ⟨v, h1, h2, h3, h4.1⟩ : Calls Tryz.prog 13 #[.slice s' n c', .agg #[.float .f64 y.1, .float .f64 y.2.1, .float .f64 y.2.2.1, .float .f64 y.2.2.2], .float .f64 d] W fun e w' => ∃ v, e = .returned (.tuple #[v, .int .i64 (ckG n d)]) ∧ OwnR 1 W.heap.size w' v (gwL B n d y).length (iRow (gwL B n d y)) ∧ ((gwL B n d y) = [] → v = .slice none 0 0) ∧ Below W.heap.size W w')
    have hpr := fun (s' : Option Addr) (c' : Nat) (W : World) (h : AnyB W s' n B) => rwith14_s s' n c' d B y W h hn
    have hl := Nat.le_trans (gwL_len B n d y) hn
    obtain ⟨E, hE⟩ : ∃ E, ckG n d = E := ⟨_, rfl⟩
    obtain ⟨PL, hPL⟩ : ∃ L, gwL B n d y = L := ⟨_, rfl⟩
    simp only [hE, hPL] at hpa hpr hl
    clear hE hPL
    have HLP : Hid (PL.length < 4611686018427387904) := (show _ < _ from by omega)
    go_enter Tryz.func4, Tryz.ntmps4
    go_upto_region 1 with (fail)
    rw [← hW0]
    clear hW0
    go_upto_region 12 with (first | (go_at_call 7; (with_reducible refine (alive14_s _).mono ?_); rintro e w1 ⟨rfl, hb01⟩; have hA1 := hA0.below hb01; have hb1 := bw_trans B00.1 hb01; replace u0 := below_get hb01 hu u0; replace u1 := below_get hb01 hu u1; replace u2 := below_get hb01 hu u2; replace u3 := below_get hb01 hu u3; have hsu1 := hb01.size) | (go_at_call 8; (with_reducible refine (lent14_s sa n cap B w1 hA1 hn).mono ?_); rintro e w2 ⟨g, c, rfl, hg, hc, hcm, hM2, hb2⟩; have hA2 := hA1.below hb2.1; have K2 := bw_trans hb1 hb2.1; replace u0 := keepB hb2 u0; replace u1 := keepB hb2 u1; replace u2 := keepB hb2 u2; replace u3 := keepB hb2 u3; have hsu2 := Nat.le_trans hsu1 hb2.size) | (go_at_call 13; first | (have zn := m1; clear zn; (with_reducible refine (hpa (some ⟨g, 0, none⟩) c w3 hM3.any).mono ?_); rintro e w4 ⟨v4, rfl, hO4, hz4, hb4⟩; have hM4 := hM3.below hb4; have hA4 := hA3.below hb4; have K4 := bw_trans K3 hb4; replace u0 := below_get hb4 (Nat.lt_of_lt_of_le hu hsu3) u0; replace u1 := below_get hb4 (Nat.lt_of_lt_of_le hu hsu3) u1; replace u2 := below_get hb4 (Nat.lt_of_lt_of_le hu hsu3) u2; replace u3 := below_get hb4 (Nat.lt_of_lt_of_le hu hsu3) u3; clear m1) | ((with_reducible refine (hpa (some ⟨g, 0, none⟩) c w2 hM2.any).mono ?_); rintro e w3 ⟨v3, rfl, hO3, hz3, hb3⟩; have hM3 := hM2.below hb3; have hA3 := hA2.below hb3; have K3 := bw_trans K2 hb3; replace u0 := below_get hb3 (Nat.lt_of_lt_of_le hu hsu2) u0; replace u1 := below_get hb3 (Nat.lt_of_lt_of_le hu hsu2) u1; replace u2 := below_get hb3 (Nat.lt_of_lt_of_le hu hsu2) u2; replace u3 := below_get hb3 (Nat.lt_of_lt_of_le hu hsu2) u3; have hsu3 := Nat.le_trans hsu2 hb3.size; have m1 := hide True.intro)) | (go_at_call 14; (with_reducible refine (hpr sa cap w4 hA4).mono ?_); rintro e w5 ⟨v5, rfl, hO5, hb5⟩; have hM5 := hM4.below hb5.1; have hA5 := hA4.below hb5.1; have K5 := bw_trans K4 hb5.1; have h35 : Below w3.heap.size w3 w5 := bw_trans hb4 hb5.1; have p3 : IRow w5 v3 PL := ((own_row hO3).below h35); have p4 : IRow w5 v4 PL := ((own_row hO4).below hb5.1); have p5 : IRow w5 v5 PL := own_row hO5) | (go_at_call 15; (with_reducible refine (sameI_s PL v3 v5 w5 p3 p5 HLP.out).mono ?_); rintro e w6 ⟨rfl, hb6⟩; have hM6 := hM5.below hb6.1; have hA6 := hA5.below hb6.1) | (go_at_call 12; (with_reducible refine (kept14_s g c sa n cap B w6 hM6 hA6 hn hc hcm).mono ?_); rintro e w7 ⟨rfl, hb7⟩; have K7 := bw_trans (bw_trans K5 hb6.1) hb7.1))
    have s2 : w.heap.size ≤ w2.heap.size := K2.size
    have s3 : w2.heap.size ≤ w3.heap.size := hb3.size
    have s4 : w3.heap.size ≤ w4.heap.size := hb4.size
    have s5 : w4.heap.size ≤ w5.heap.size := hb5.size
    have h67 := bl_trans hb6 hb7
    have s7 : w5.heap.size ≤ w7.heap.size := h67.size
    obtain ⟨N, hN⟩ : ∃ N, PL.length = N := ⟨_, rfl⟩
    have h37 : Below w3.heap.size w3 w7 := bw_trans (bw_trans hb4 hb5.1) h67.1
    have hO37 : OwnR 1 w2.heap.size w7 v3 N (iRow PL) := by
      rcases hO3.below h37 (by decide) with h | h
      · rw [← hN]; exact h
      · have e0 : PL = [] := List.eq_nil_of_length_eq_zero h
        rw [hz3 e0, ← hN, e0]
        exact OwnR.nil _ _ _
    have q4 : IRow w7 v4 PL := p4.below h67.1
    have q5 : IRow w7 v5 PL := p5.below h67.1
    have f3 : ∀ k, vb v3 = some k → k < w3.heap.size := fun k e => by
      rcases own_split hO3 (by decide) with ⟨h0, _⟩ | ⟨_, g', c', e', _, h2, _⟩
      · rw [hz3 (List.eq_nil_of_length_eq_zero h0)] at e; cases e
      · rw [e'] at e; have e : g' = k := by simpa [vb] using e
        omega
    have f4 : ∀ k, vb v4 = some k → w3.heap.size ≤ k ∧ k < w7.heap.size := fun k e => by
      rcases own_split hO4 (by decide) with ⟨h0, _⟩ | ⟨_, g', c', e', h1, h2, _⟩
      · rw [hz4 (List.eq_nil_of_length_eq_zero h0)] at e; cases e
      · rw [e'] at e; have e : g' = k := by simpa [vb] using e
        omega
    have f5 : NoSh v3 v5 ∧ ∀ k, PL ≠ [] → vb v5 = some k → k < w7.heap.size := by
      refine ⟨fun k e e5 => ?_, fun k hne e => ?_⟩
      · have h1 := f3 k e
        have h2 := own_vb hO5 k e5
        omega
      · rcases own_split hO5 (by decide) with ⟨h0, _⟩ | ⟨_, g', c', e', h1, h2, _⟩
        · exact absurd (List.eq_nil_of_length_eq_zero h0) hne
        · rw [e'] at e; have e : g' = k := by simpa [vb] using e
          omega
    have hn34 : NoSh v3 v4 := fun k e e4 => by have h1 := f3 k e; have h2 := (f4 k e4).1; omega
    have hz5 : PL = [] → ∃ v5', IRow w7 v5' PL ∧ True := fun _ => ⟨v5, q5, trivial⟩
    obtain ⟨sp, cp, hv3⟩ := own_len14 hO37
    have HX4 : Hid (PL ≠ [] → NoSh v3 v4) := (show _ → _ from fun _ => hn34)
    have HX5 : Hid (PL ≠ [] → NoSh v3 v5) := (show _ → _ from fun _ => f5.1)
    have HN : Hid (PL.length = N) := hN
    have hl2 : N ≤ 200 := by rw [← hN]; exact hl
    clear f3 f4 f5 hn34 hz5 hO3 hO4 hO5 hz3 hz4 p3 p4 p5 hpa hpr hM2 hM3 hM4 hM5 hM6 hA1 hA2 hA3 hA4 hA5 hA6 hN hl
    subst hv3
    have hs2 : w2.heap.size ≤ w7.heap.size := by omega
    go_wp2
    go_loopg [17] N (fun kx s17 wr => ∃ (k : Nat) (R : List Value), s17 = .int .i64 k ∧ k ≤ N ∧ N - k ≤ kx ∧ OwnR 1 w2.heap.size wr (.slice sp N cp) N R ∧ Below w.heap.size w wr ∧ w2.heap.size ≤ wr.heap.size ∧ IRow wr v4 PL ∧ IRow wr v5 PL)
    case atStart => exact ⟨0, _, rfl, Nat.zero_le _, Nat.le_refl _, hO37, K7, hs2, q4, q5⟩
    case round =>
      clear hO37 q4 q5
      obtain ⟨k, R, rfl, hk, hkx, hO, hK, hsz, q4, q5⟩ := hrel
      by_cases hlt : k < N
      · have hltz : (k : Int) < (N : Int) := by omega
        have hwk : IntKind.wrap .i64 ((k : Int) + 1) = (k : Int) + 1 := by rw [IntKind.wrap_i64]; omega
        obtain ⟨ga, hga, hgb⟩ : ∃ ga, sp = some ⟨ga, 0, none⟩ ∧ w2.heap.size ≤ ga := by
          rcases own_split hO (by decide) with ⟨h0, _⟩ | ⟨_, g', c', e, h1, _⟩
          · omega
          · injection e with e1 _ _
            exact ⟨g', e1, h1⟩
        subst hga
        obtain ⟨⟨x0, c0⟩, z0⟩ := own_at hO (o := k) (by omega)
        have hO2 := own_put hO (o := k) (by omega) (.int .i64 (-1))
        have HO2 : Aside _ := hO2
        have HK2 : Aside _ := hK.setCell (p := ⟨ga, k, none⟩) (show w.heap.size ≤ ga by omega) (.int .i64 (-1))
        have HQ4 : Aside _ := irow_put (o := k) (x := .int .i64 (-1)) q4 HX4.out
        have HQ5 : Aside _ := irow_put (o := k) (x := .int .i64 (-1)) q5 HX5.out
        clear hO2
        go_wp2
        go_roundg (N - (k + 1))
        case measure => omega
        case rel => exact ⟨k + 1, _, by go_num, by omega, Nat.le_refl _, HO2.out, HK2.out, by rw [World.size_setCell]; exact hsz, HQ4.out, HQ5.out⟩
      · have hltz : ¬ (k : Int) < (N : Int) := by omega
        obtain ⟨u, hu⟩ : ∃ u, u = Value.slice sp N cp := ⟨_, rfl⟩
        have hov := own_vb hO
        rw [← hu] at hO hov
        have HX4 : Hid (PL ≠ [] → NoSh u v4) := (show _ → _ from by rw [hu]; exact HX4.out)
        have HX5 : Hid (PL ≠ [] → NoSh u v5) := (show _ → _ from by rw [hu]; exact HX5.out)
        obtain ⟨wo, hwo⟩ : ∃ X, X = wr := ⟨_, rfl⟩
        subst hwo
        go_wp2
        go_loopg [9, 18] 20 (fun kx s9 s18 wr => ∃ (t : Nat) (R : List Value), s18 = .int .i64 t ∧ t ≤ 20 ∧ 20 - t ≤ kx ∧ OwnR 1 w2.heap.size wr s9 (N + t) R ∧ Below w.heap.size w wr ∧ w2.heap.size ≤ wr.heap.size ∧ IRow wr v4 PL ∧ IRow wr v5 PL ∧ Hid (PL ≠ [] → NoSh s9 v4) ∧ Hid (PL ≠ [] → NoSh s9 v5))
        case atStart => exact ⟨0, R, rfl, by omega, by omega, by rw [← hu]; exact hO, hK, hsz, q4, q5, by rw [← hu]; exact HX4, by rw [← hu]; exact HX5⟩
        case round =>
          clear hO hK hsz q4 q5 HX4 HX5 hu hov
          obtain ⟨t, R, rfl, ht, hkx, hO, hK, hsz, q4, q5, HX4, HX5⟩ := hrel
          by_cases hlt2 : t < 20
          · have hlt2z : (t : Int) < (20 : Int) := by omega
            have hwk : IntKind.wrap .i64 ((t : Int) + 1) = (t : Int) + 1 := by rw [IntKind.wrap_i64]; omega
            have hov := own_vb hO
            have bA := bl_alloc (bl_refl wr) #[.int .i64 (-2)] 3
            have hO' := hO.bel bA
            have one : ∀ x ∈ ([.int .i64 (-2)] : List Value), x.oneCell' = true := by
              intro x hx
              simp only [List.mem_cons, List.not_mem_nil, or_false] at hx
              subst hx; rfl
            go_wp2_with (first | (at_builtin; refine wpList_appU (P := Tryz.prog) (sz := 1) (by_ := 8) (R := R) (N := [.int .i64 (-2)]) 38 3 rfl _ _ rfl Tryz.underlying38 info_int rfl rfl _ 0 1 1 rfl hO' rfl (mk_rw wr [.int .i64 (-2)] 3) one (by decide) (by simp only [World.size_alloc]; omega) (by unfold maxLen; omega) (by omega) ?_; intro v9 w9 hO9 hv9 hOh9; obtain ⟨g9, cap9, rfl, hw9⟩ := hv9))
            have hs9 := hOh9.size
            rw [World.size_alloc] at hs9
            have hK9 : Below w.heap.size w w9 := (hK.trans (bA.1.mono hK.size)).trans (oh_below hOh9 (fun k e => Nat.le_trans s2 (hov k e)) (by rw [World.size_alloc]; have := hK.size; omega))
            have q49 := irow_step (q4.below bA.1) hOh9 HX4.out
            have q59 := irow_step (q5.below bA.1) hOh9 HX5.out
            have n49 := irow_nosh (m := N + t + 1) (c := cap9) (q4.below bA.1) HX4.out hw9
            have n59 := irow_nosh (m := N + t + 1) (c := cap9) (q5.below bA.1) HX5.out hw9
            have HN4 : Hid _ := n49
            have HN5 : Hid _ := n59
            clear n49 n59
            go_roundg (20 - (t + 1))
            case measure => omega
            case rel => exact ⟨t + 1, _, by go_num, by omega, Nat.le_refl _, hO9, hK9, by omega, q49, q59, HN4, HN5⟩
          · have hlt2z : ¬ (t : Int) < (20 : Int) := by omega
            go_wp2_with (first | (go_at_call 15; (with_reducible refine (sameI_s PL v4 v5 wr q4 q5 HLP.out).mono ?_); rintro e w8 ⟨rfl, hb8⟩))
            go_ret
            exact ⟨by first | rfl | simp, hK.trans (hb8.1.mono hK.size)⟩
  · have hnz : (200 : Int) < (n : Int) := by omega
    go_enter Tryz.func4, Tryz.ntmps4
    go_upto_region 1 with (fail)
    rw [← hW0]
    clear hW0
    go_wp2_with (first | (go_at_call 7; (with_reducible refine (alive14_s _).mono ?_); rintro e w1 ⟨rfl, hb01⟩; have hA1 := hA0.below hb01; have hb1 := bw_trans B00.1 hb01; replace u0 := below_get hb01 hu u0; replace u1 := below_get hb01 hu u1; replace u2 := below_get hb01 hu u2; replace u3 := below_get hb01 hu u3; have hsu1 := hb01.size))
    go_ret
    exact ⟨rfl, hb1⟩

/-- a row of boxes: none, or len of them in cells, with room for cap -/
def IsBoxes (w : World) (a : Option Addr) (len cap : Nat) : Prop :=
  (a = none ∧ len = 0 ∧ cap = 0) ∨ ∃ (x : Addr) (B : Nat → Bo), a = some x ∧ len ≤ cap ∧ cap ≤ maxLen ∧ len * 32 ≤ 140737488351232 ∧ ∀ i, i < len → w.cell? (x.add (i * 4)) = some (.float .f64 (B i).1) ∧ w.cell? (x.add (i * 4 + 1)) = some (.float .f64 (B i).2.1) ∧ w.cell? (x.add (i * 4 + 2)) = some (.float .f64 (B i).2.2.1) ∧ w.cell? (x.add (i * 4 + 3)) = some (.float .f64 (B i).2.2.2) ∧ okK .f64 (B i).1 ∧ okK .f64 (B i).2.1 ∧ okK .f64 (B i).2.2.1 ∧ okK .f64 (B i).2.2.2
theorem any_of {w : World} {a : Option Addr} {len cap : Nat} (h : IsBoxes w a len cap) : ∃ B, AnyB w a len B ∧ len * 32 ≤ 140737488351232 ∧ ∀ i, i < len → okK .f64 (B i).1 ∧ okK .f64 (B i).2.1 ∧ okK .f64 (B i).2.2.1 ∧ okK .f64 (B i).2.2.2 := by
  rcases h with ⟨rfl, rfl, rfl⟩ | ⟨x, B, rfl, hl, hm, hr, hcell⟩
  · exact ⟨fun _ => (0, 0, 0, 0), .inl rfl, by omega, fun i hi => by omega⟩
  · refine ⟨B, ?_, hr, fun i hi => (hcell i hi).2.2.2.2⟩
    rcases Nat.eq_zero_or_pos len with h0 | h0
    · exact .inl h0
    · right
      obtain ⟨b, off, spot⟩ := x
      have hspot : spot = none := by simpa [Addr.add] using World.cell?_spot (hcell 0 h0).1
      subst hspot
      have hc0 := (hcell 0 h0).1
      rw [add_plain] at hc0
      refine ⟨b, off, rfl, fun i hi => ?_, World.block_lt_of_cell? _ _ hc0⟩
      obtain ⟨h1, h2, h3, h4, _⟩ := hcell i hi
      rw [add_plain] at h1 h2 h3 h4
      rw [← Nat.add_assoc] at h2 h3 h4
      exact ⟨h1, h2, h3, h4⟩
theorem walk (a0 : Option Addr) (len0 cap0 : Nat) (lx1 ly1 hx1 hy1 : Nat) (s2 : Nat) (os2 : okK .f64 s2) (w : World) (h0 : IsBoxes w a0 len0 cap0) :
    Calls Tryz.prog 4 #[.slice a0 len0 cap0, .agg #[.float .f64 lx1, .float .f64 ly1, .float .f64 hx1, .float .f64 hy1], .float .f64 s2] w fun e w' => e = .returned (.bool true) ∧ Below w.heap.size w w' := by
  obtain ⟨B0, g0, r0, o0⟩ := any_of h0
  exact walk_any a0 len0 cap0 B0 (lx1, ly1, hx1, hy1) s2 os2 w g0 r0 o0

set_option maxRecDepth 100000 in
theorem lifted (os : Os) (started : os.Started) (H : Type) (enc : TypeId × Value → H) :
    ReturnsInHanded {} Tryz.checked os 4 .any (Rows.gridWithsSpec.pre6 enc Tryz.prog Tryz.f4 Rows.gridWithsRow.domain false) (Rows.gridWithsSpec.post enc Tryz.prog Tryz.f4 false true false false) := by
  refine returnsInHanded_of_change_sized (C := Tryz.checked) own started (by kernel_rfl) Tryz.func4
    (ChangeSpec.witness6 (enc := enc) (C := Tryz.checked) false ⟨#[], #[.slice none 0 0, .agg #[.float .f64 0, .float .f64 0, .float .f64 0, .float .f64 0], .float .f64 0], []⟩ 8 (by kernel_rfl) (by kernel_rfl) (by kernel_rfl) (by kernel_rfl)) ?_
  intro W base args ds gs before hval0 hW hcnd hsz0 _
  have hsz : (DataW.weightsEach Tryz.prog (Tryz.f4.params.toList ++ Rows.gridWithsSpec.plain.varTypes Tryz.prog) (ds ++ gs)).all (· ≤ reachBytes) = true := hsz0
  have hval : ∀ (j : Nat) t v, Tryz.f4.params[j]? = some t → args[j]? = some v → Value.okWide Tryz.prog W .any base t v := hval0
  have hW' := hW
  obtain ⟨p, q, hA0, hV, rfl, hfz, hnd⟩ := hW
  have hA : DataW.TrodAll enc Tryz.prog W 0 (fun _ => true) true Tryz.f4.params.toList args.toList ds p := hA0
  rw [Tryz.params4] at hA hval hsz
  obtain ⟨v0, vs0, d0, ds0, p0, q0, hargs, rfl, rfl, h0, r0⟩ := trodAll_cons hA
  obtain ⟨v1, vs1, d1, ds1, p1, q1, rfl, rfl, rfl, h1, r1⟩ := trodAll_cons r0
  obtain ⟨v2, vs2, d2, ds2, p2, q2, rfl, rfl, rfl, h2, r2⟩ := trodAll_cons r1
  obtain ⟨rfl, rfl, rfl⟩ := trodAll_nil r2
  obtain rfl : args = #[v0, v1, v2] := by cases args; simp_all
  obtain ⟨rfl, rfl⟩ := trodVars_none hV
  obtain ⟨a0, len0, cap0, rfl⟩ := okWide_slice Tryz.underlying22 (hval 0 22 v0 rfl rfl)
  obtain ⟨lx1, ly1, hx1, hy1, rfl, rfl, rfl, wlx1, wly1, whx1, why1⟩ := open_box (hval 1 37 v1 rfl rfl) h1
  obtain ⟨s2, rfl, rfl, rfl, ws2⟩ := open_float Tryz.underlying23 (hval 2 23 v2 rfl rfl) h2
  have k0 := h0
  have lt0 : ∀ x ∈ p0, x.block < W.heap.size := by obtain ⟨m, hm⟩ := k0; exact DataW.trod_lt m _ _ _ hm
  have w0 : IsBoxes W a0 len0 cap0 := by
    obtain ⟨fuel, hf⟩ := h0
    rcases Go.Deep.open_slice Tryz.underlying22 hf with ⟨hcs, _⟩ | ⟨x, l, c, m, n, D, Pl, hcs, _, hl, hm, hmm, hx, hcell⟩
    · simp [Value.cells] at hcs
      exact .inl hcs
    · simp [Value.cells] at hcs
      obtain ⟨rfl, rfl, rfl⟩ := hcs
      simp only [Prod.mk.injEq] at hx
      obtain ⟨rfl, rfl⟩ := hx
      have hr := sized_slice hsz (j := 0) (t := 22) (e := 37) rfl rfl Tryz.underlying22
      rw [show Tryz.prog.bytesOf 37 = 32 by kernel_rfl] at hr
      simp only [List.length_map, List.length_range, reachBytes] at hr
      have hlm : len0 ≤ m := by rw [hmm]; split <;> omega
      have V : ∀ i, ∃ q : Nat × Nat × Nat × Nat, i < m → W.cell? (x.add (i * 4)) = some (.float .f64 q.1) ∧ W.cell? (x.add (i * 4 + 1)) = some (.float .f64 q.2.1) ∧ W.cell? (x.add (i * 4 + 2)) = some (.float .f64 q.2.2.1) ∧ W.cell? (x.add (i * 4 + 3)) = some (.float .f64 q.2.2.2) ∧ okK .f64 q.1 ∧ okK .f64 q.2.1 ∧ okK .f64 q.2.2.1 ∧ okK .f64 q.2.2.2 := by
        intro i
        by_cases hi : i < m
        · obtain ⟨cs', h1, h2⟩ := hcell i hi
          rw [cellsM] at h1
          obtain ⟨_, hlen, hce⟩ := World.cells?_some h1
          obtain ⟨y0, y1, n', hx', _, g0, g1⟩ := trod_struct2 Tryz.underlying37 h2
          match cs', hlen with
          | [v0, v1, v2, v3], _ =>
            simp [cellsV] at g0 g1
            obtain ⟨z0, z1, n2, hz, _, g4, g5⟩ := trod_struct2 Tryz.underlying35 g0
            obtain ⟨z2, z3, n3, hz3, _, g6, g7⟩ := trod_struct2 Tryz.underlying35 g1
            simp [cellsF] at g4 g5 g6 g7
            obtain ⟨a, e0, _, wa⟩ := trod_fl Tryz.underlying23 g4
            obtain ⟨b, e1, _, wb⟩ := trod_fl Tryz.underlying23 g5
            obtain ⟨c, e2, _, wc⟩ := trod_fl Tryz.underlying23 g6
            obtain ⟨d, e3, _, wd⟩ := trod_fl Tryz.underlying23 g7
            simp at e0 e1 e2 e3
            subst e0 e1 e2 e3
            have q0 := hce 0 (by omega)
            have q1 := hce 1 (by omega)
            have q2 := hce 2 (by omega)
            have q3 := hce 3 (by omega)
            rw [Go.Deep.add_add] at q0 q1 q2 q3
            exact ⟨(a, b, c, d), fun _ => ⟨by simpa using q0, by simpa using q1, by simpa using q2, by simpa using q3, wf_f64 wa, wf_f64 wb, wf_f64 wc, wf_f64 wd⟩⟩
        · exact ⟨(0, 0, 0, 0), fun h => absurd h hi⟩
      have V' := Classical.axiomOfChoice V
      obtain ⟨f, hf'⟩ := V'
      exact .inr ⟨x, f, rfl, hl, hm, by omega, fun i hi => hf' i (by omega)⟩
  clear hA0 hval0 hsz0
  refine (walk a0 len0 cap0 lx1 ly1 hx1 hy1 s2 (wf_f64 ws2) W w0).mono fun e W' ⟨he, bel0⟩ => ?_
  have bel := bel0
  subst he
  exact ⟨_, rfl, _, _, _, [], _, [], hW', trodAll_mk1 (shut_bool Tryz.underlying4 _), (trodAll_cons_mk (Below.trod laidOut (by kernel_rfl) (of_decide_eq_true (by kernel_rfl)) k0 bel lt0) (trodAll_cons_mk (shut_box wlx1 wly1 whx1 why1) (trodAll_cons_mk (shut_float Tryz.underlying23 ws2) trodAll_mk0))), rfl, bel.frame _, fun h => by cases h⟩

theorem over : Rows.gridWithsRow.holds Tryz.pinned (OpenSpec.ofChange Rows.gridWithsSpec) :=
  OpenClaim.holds_of_wide 4 Tryz.f4 rfl rfl rfl rfl rfl rfl rfl ⟨rfl, rfl, rfl, rfl, rfl⟩ rfl rfl rfl rfl rfl (by kernel_rfl) Tryz.func4 (by kernel_rfl)
    (of_decide_eq_true (by kernel_rfl)) (by unfold Func.isWrapper; first | (rw [if_pos (by decide +kernel)]; kernel_rfl) | (rw [if_neg (by decide +kernel)]; exact ⟨rfl, rfl⟩))
    (fun os started H enc _ => lifted os started H enc)

theorem proved : Rows.GridWithsSaid :=
  over
#print axioms proved
end Go.Proofs.YtekhnolpgoejdaaGreat.gridWiths
