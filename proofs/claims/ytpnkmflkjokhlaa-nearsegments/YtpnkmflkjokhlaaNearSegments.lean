/-
  'tumblelaw10.NearSegments' (P10.1, P10.2): of any places, no numbers too, what is next to one, and how near segments are, is what the document says.
-/
import Derived.Test.YtpnkmflkjokhlaaRows
import Derived.Test.YtpnkmflkjokhlaaNg
import Derived.WalkKit
import Derived.ProofKit
import Derived.OpenShut
import Derived.WalkLawsBesides
import Derived.WalkSpells
import Derived.Lib.SmallJoins
import Derived.Laws.Cover2
import Derived.Deep.RegionHeld3
import Derived.Deep.Strs
namespace Go.Proofs.Ytpnkmflkjokhlaa.nearSegments
open Go.ChangeShapes Go.WideShapes Go.ChangeAt Go.RowKit Go.Joins
set_option linter.unusedVariables false
set_option linter.unusedSimpArgs false

theorem own : ownKnob Try.prog.godebug = none := by kernel_rfl
theorem cellsV : Try.prog.cellsOf 24 = 2 := by kernel_rfl
theorem wf_f64 {x : Nat} (h : (Lit.float .f64 x).wf = true) : okK .f64 x := by
  rw [okK64]; simpa [Lit.wf] using h
theorem trod_fl {H : Type} {enc : TypeId × Value → H} {P : Program} {w : World} {base fuel : Nat} {spare : Nat → Bool} {held : Bool} {t : TypeId} {cs : List Value} {x : DataW H × List MemPlace} {k : FloatKind} (ht : P.underlying t = some (.float k)) (h : DataW.trod enc P w base spare held fuel t cs = some x) : ∃ n, cs = [.float k n] ∧ x = (.lit (.float k n), []) ∧ (Lit.float k n).wf = true := by
  cases fuel with
  | zero => simp [DataW.trod] at h
  | succ n =>
    unfold DataW.trod at h
    rw [ht] at h
    split at h <;> simp_all

theorem array8 {α : Type} {cs : Array α} (h : cs.size = 8) : ∃ c0 c1 c2 c3 c4 c5 c6 c7, cs = #[c0, c1, c2, c3, c4, c5, c6, c7] := by
  obtain ⟨l⟩ := cs
  match l, h with
  | [c0, c1, c2, c3, c4, c5, c6, c7], _ => exact ⟨c0, c1, c2, c3, c4, c5, c6, c7, rfl⟩
set_option maxRecDepth 100000 in
theorem open_quad {H : Type} {enc : TypeId × Value → H} {w : World} {base : Nat} {spare : Nat → Bool} {held : Bool} {r : Reach} {b0 : Nat} {v : Value} {d : DataW H} {p : List MemPlace}
    (hv : Value.okWide Try.prog w r b0 26 v) (h : DataW.Trod enc Try.prog w base spare held 26 v d p) :
    ∃ a0 a1 a2 a3 a4 a5 a6 a7 : Nat, v = .agg #[.float .f64 a0, .float .f64 a1, .float .f64 a2, .float .f64 a3, .float .f64 a4, .float .f64 a5, .float .f64 a6, .float .f64 a7] ∧ d = .agg [.agg [.lit (.float .f64 a0), .lit (.float .f64 a1)], .agg [.lit (.float .f64 a2), .lit (.float .f64 a3)], .agg [.lit (.float .f64 a4), .lit (.float .f64 a5)], .agg [.lit (.float .f64 a6), .lit (.float .f64 a7)]] ∧ p = [] ∧
      (Lit.float .f64 a0).wf = true ∧ (Lit.float .f64 a1).wf = true ∧ (Lit.float .f64 a2).wf = true ∧ (Lit.float .f64 a3).wf = true ∧ (Lit.float .f64 a4).wf = true ∧ (Lit.float .f64 a5).wf = true ∧ (Lit.float .f64 a6).wf = true ∧ (Lit.float .f64 a7).wf = true := by
  obtain ⟨cs, rfl, hsz⟩ := okWide_struct Try.underlying26 hv
  obtain ⟨c0, c1, c2, c3, c4, c5, c6, c7, rfl⟩ := array8 (hsz.trans (by kernel_rfl))
  obtain ⟨fuel, hf⟩ := h
  obtain ⟨y0, y1, y2, y3, n, hx, _, h0, h1, h2, h3⟩ := trod_struct4 Try.underlying26 hf
  simp [Value.cells, cellsV] at h0 h1 h2 h3
  obtain ⟨u0, t0, n0, hu0, _, g0, k0⟩ := trod_struct2 Try.underlying24 h0
  simp [show Try.prog.cellsOf 22 = 1 by kernel_rfl] at g0 k0
  obtain ⟨a0, e0, rfl, w0⟩ := trod_fl Try.underlying22 g0
  obtain ⟨a1, e1, rfl, w1⟩ := trod_fl Try.underlying22 k0
  obtain ⟨u1, t1, n1, hu1, _, g1, k1⟩ := trod_struct2 Try.underlying24 h1
  simp [show Try.prog.cellsOf 22 = 1 by kernel_rfl] at g1 k1
  obtain ⟨a2, e2, rfl, w2⟩ := trod_fl Try.underlying22 g1
  obtain ⟨a3, e3, rfl, w3⟩ := trod_fl Try.underlying22 k1
  obtain ⟨u2, t2, n2, hu2, _, g2, k2⟩ := trod_struct2 Try.underlying24 h2
  simp [show Try.prog.cellsOf 22 = 1 by kernel_rfl] at g2 k2
  obtain ⟨a4, e4, rfl, w4⟩ := trod_fl Try.underlying22 g2
  obtain ⟨a5, e5, rfl, w5⟩ := trod_fl Try.underlying22 k2
  obtain ⟨u3, t3, n3, hu3, _, g3, k3⟩ := trod_struct2 Try.underlying24 h3
  simp [show Try.prog.cellsOf 22 = 1 by kernel_rfl] at g3 k3
  obtain ⟨a6, e6, rfl, w6⟩ := trod_fl Try.underlying22 g3
  obtain ⟨a7, e7, rfl, w7⟩ := trod_fl Try.underlying22 k3
  simp at e0 e1 e2 e3 e4 e5 e6 e7
  subst e0 e1 e2 e3 e4 e5 e6 e7
  subst hu0 hu1 hu2 hu3
  simp only [Prod.mk.injEq] at hx
  exact ⟨a0, a1, a2, a3, a4, a5, a6, a7, rfl, hx.1, hx.2, w0, w1, w2, w3, w4, w5, w6, w7⟩
set_option maxRecDepth 100000 in
theorem shut_quad {H : Type} {enc : TypeId × Value → H} {w : World} {base : Nat} {spare : Nat → Bool} {held : Bool} {a0 a1 a2 a3 a4 a5 a6 a7 : Nat} (w0 : (Lit.float .f64 a0).wf = true) (w1 : (Lit.float .f64 a1).wf = true) (w2 : (Lit.float .f64 a2).wf = true) (w3 : (Lit.float .f64 a3).wf = true) (w4 : (Lit.float .f64 a4).wf = true) (w5 : (Lit.float .f64 a5).wf = true) (w6 : (Lit.float .f64 a6).wf = true) (w7 : (Lit.float .f64 a7).wf = true) :
    DataW.Trod enc Try.prog w base spare held 26 (.agg #[.float .f64 a0, .float .f64 a1, .float .f64 a2, .float .f64 a3, .float .f64 a4, .float .f64 a5, .float .f64 a6, .float .f64 a7]) (.agg [.agg [.lit (.float .f64 a0), .lit (.float .f64 a1)], .agg [.lit (.float .f64 a2), .lit (.float .f64 a3)], .agg [.lit (.float .f64 a4), .lit (.float .f64 a5)], .agg [.lit (.float .f64 a6), .lit (.float .f64 a7)]]) [] := by
  have cf : Try.prog.cellsOf 22 = 1 := by kernel_rfl
  have tv : ∀ x y : Nat, (Lit.float .f64 x).wf = true → (Lit.float .f64 y).wf = true → DataW.trod enc Try.prog w base spare held 2 24 [.float .f64 x, .float .f64 y] = some (.agg [.lit (.float .f64 x), .lit (.float .f64 y)], []) := fun x y wx wy =>
    trod_struct2_mk (y0 := (.lit (.float .f64 x), [])) (y1 := (.lit (.float .f64 y), [])) Try.underlying24 (by simp [cellsV]) (by simp [cf, DataW.trod, Try.underlying22, wx]) (by simp [cf, DataW.trod, Try.underlying22, wy])
  exact ⟨3, trod_struct4_mk (y0 := (.agg [.lit (.float .f64 a0), .lit (.float .f64 a1)], [])) (y1 := (.agg [.lit (.float .f64 a2), .lit (.float .f64 a3)], [])) (y2 := (.agg [.lit (.float .f64 a4), .lit (.float .f64 a5)], [])) (y3 := (.agg [.lit (.float .f64 a6), .lit (.float .f64 a7)], [])) Try.underlying26 (by simp [Value.cells]; kernel_rfl) (by simpa [Value.cells, cellsV] using tv a0 a1 w0 w1) (by simpa [Value.cells, cellsV] using tv a2 a3 w2 w3) (by simpa [Value.cells, cellsV] using tv a4 a5 w4 w5) (by simpa [Value.cells, cellsV] using tv a6 a7 w6 w7)⟩
set_option maxRecDepth 100000 in
set_option maxHeartbeats 4000000 in
theorem walk (x00 y00 x01 y01 x02 y02 x03 y03 : Nat) (ox00 : okK .f64 x00) (oy00 : okK .f64 y00) (ox01 : okK .f64 x01) (oy01 : okK .f64 y01) (ox02 : okK .f64 x02) (oy02 : okK .f64 y02) (ox03 : okK .f64 x03) (oy03 : okK .f64 y03) (w : World) :
    Calls Try.prog 3 #[.agg #[.float .f64 x00, .float .f64 y00, .float .f64 x01, .float .f64 y01, .float .f64 x02, .float .f64 y02, .float .f64 x03, .float .f64 y03]] w fun e w' => e = .returned (.bool true) ∧ Bel w w' := by
  have hA := isP_self ox00 oy00
  have hB := isP_self ox01 oy01
  have hC := isP_self ox02 oy02
  have hD := isP_self ox03 oy03
  have z0_0 : (w.alloc (.cells #[.float .f64 x00, .float .f64 y00, .float .f64 x01, .float .f64 y01, .float .f64 x02, .float .f64 y02, .float .f64 x03, .float .f64 y03] 26)).cell? ⟨w.heap.size, 0, none⟩ = some (.float .f64 x00) := by rw [World.cell?_alloc_new]; rfl
  have z0_1 : (w.alloc (.cells #[.float .f64 x00, .float .f64 y00, .float .f64 x01, .float .f64 y01, .float .f64 x02, .float .f64 y02, .float .f64 x03, .float .f64 y03] 26)).cell? ⟨w.heap.size, 1, none⟩ = some (.float .f64 y00) := by rw [World.cell?_alloc_new]; rfl
  have z0_2 : (w.alloc (.cells #[.float .f64 x00, .float .f64 y00, .float .f64 x01, .float .f64 y01, .float .f64 x02, .float .f64 y02, .float .f64 x03, .float .f64 y03] 26)).cell? ⟨w.heap.size, 2, none⟩ = some (.float .f64 x01) := by rw [World.cell?_alloc_new]; rfl
  have z0_3 : (w.alloc (.cells #[.float .f64 x00, .float .f64 y00, .float .f64 x01, .float .f64 y01, .float .f64 x02, .float .f64 y02, .float .f64 x03, .float .f64 y03] 26)).cell? ⟨w.heap.size, 3, none⟩ = some (.float .f64 y01) := by rw [World.cell?_alloc_new]; rfl
  have z0_4 : (w.alloc (.cells #[.float .f64 x00, .float .f64 y00, .float .f64 x01, .float .f64 y01, .float .f64 x02, .float .f64 y02, .float .f64 x03, .float .f64 y03] 26)).cell? ⟨w.heap.size, 4, none⟩ = some (.float .f64 x02) := by rw [World.cell?_alloc_new]; rfl
  have z0_5 : (w.alloc (.cells #[.float .f64 x00, .float .f64 y00, .float .f64 x01, .float .f64 y01, .float .f64 x02, .float .f64 y02, .float .f64 x03, .float .f64 y03] 26)).cell? ⟨w.heap.size, 5, none⟩ = some (.float .f64 y02) := by rw [World.cell?_alloc_new]; rfl
  have z0_6 : (w.alloc (.cells #[.float .f64 x00, .float .f64 y00, .float .f64 x01, .float .f64 y01, .float .f64 x02, .float .f64 y02, .float .f64 x03, .float .f64 y03] 26)).cell? ⟨w.heap.size, 6, none⟩ = some (.float .f64 x03) := by rw [World.cell?_alloc_new]; rfl
  have z0_7 : (w.alloc (.cells #[.float .f64 x00, .float .f64 y00, .float .f64 x01, .float .f64 y01, .float .f64 x02, .float .f64 y02, .float .f64 x03, .float .f64 y03] 26)).cell? ⟨w.heap.size, 7, none⟩ = some (.float .f64 y03) := by rw [World.cell?_alloc_new]; rfl
  have B0 : Bel w (w.alloc (.cells #[.float .f64 x00, .float .f64 y00, .float .f64 x01, .float .f64 y01, .float .f64 x02, .float .f64 y02, .float .f64 x03, .float .f64 y03] 26)) := bl_alloc (bl_refl w) _ _
  go_enter Try.func3, Try.ntmps3
  go_wp2_with (first | (go_at_call 8; with_reducible refine (point_n _ hA hB hC).mono ?_; rintro e w1 ⟨x1, y1, t1, hq1, ht1, rfl, hb⟩; replace z0_0 : w1.cell? ⟨w.heap.size, 0, none⟩ = some (.float .f64 x00) := keep hb (by first | exact z0_0 | go_keep); replace z0_1 : w1.cell? ⟨w.heap.size, 1, none⟩ = some (.float .f64 y00) := keep hb (by first | exact z0_1 | go_keep); replace z0_2 : w1.cell? ⟨w.heap.size, 2, none⟩ = some (.float .f64 x01) := keep hb (by first | exact z0_2 | go_keep); replace z0_3 : w1.cell? ⟨w.heap.size, 3, none⟩ = some (.float .f64 y01) := keep hb (by first | exact z0_3 | go_keep); replace z0_4 : w1.cell? ⟨w.heap.size, 4, none⟩ = some (.float .f64 x02) := keep hb (by first | exact z0_4 | go_keep); replace z0_5 : w1.cell? ⟨w.heap.size, 5, none⟩ = some (.float .f64 y02) := keep hb (by first | exact z0_5 | go_keep); replace z0_6 : w1.cell? ⟨w.heap.size, 6, none⟩ = some (.float .f64 x03) := keep hb (by first | exact z0_6 | go_keep); replace z0_7 : w1.cell? ⟨w.heap.size, 7, none⟩ = some (.float .f64 y03) := keep hb (by first | exact z0_7 | go_keep); have BF := hb; clear hb; have hz1 := BF.size; simp only [World.size_alloc] at hz1; have l1 : w.heap.size < w1.heap.size := (by omega)) | (go_at_call 9; with_reducible refine (rpoint_n _ hA hB hC).mono ?_; rintro e w2 ⟨x2, y2, t2, hq2, ht2, rfl, hb⟩; replace z0_0 : w2.cell? ⟨w.heap.size, 0, none⟩ = some (.float .f64 x00) := keep hb (by first | exact z0_0 | go_keep); replace z0_1 : w2.cell? ⟨w.heap.size, 1, none⟩ = some (.float .f64 y00) := keep hb (by first | exact z0_1 | go_keep); replace z0_2 : w2.cell? ⟨w.heap.size, 2, none⟩ = some (.float .f64 x01) := keep hb (by first | exact z0_2 | go_keep); replace z0_3 : w2.cell? ⟨w.heap.size, 3, none⟩ = some (.float .f64 y01) := keep hb (by first | exact z0_3 | go_keep); replace z0_4 : w2.cell? ⟨w.heap.size, 4, none⟩ = some (.float .f64 x02) := keep hb (by first | exact z0_4 | go_keep); replace z0_5 : w2.cell? ⟨w.heap.size, 5, none⟩ = some (.float .f64 y02) := keep hb (by first | exact z0_5 | go_keep); replace z0_6 : w2.cell? ⟨w.heap.size, 6, none⟩ = some (.float .f64 x03) := keep hb (by first | exact z0_6 | go_keep); replace z0_7 : w2.cell? ⟨w.heap.size, 7, none⟩ = some (.float .f64 y03) := keep hb (by first | exact z0_7 | go_keep); have K1_0 : w2.cell? ⟨w1.heap.size, 0, none⟩ = some (.float .f64 x1) := keep hb (by go_keep); have K1_1 : w2.cell? ⟨w1.heap.size, 1, none⟩ = some (.float .f64 y1) := keep hb (by go_keep); replace BF := bl_trans (by repeat (first | exact BF | apply bl_alloc | refine bl_set ?_ (by (try simp only [World.size_alloc]); omega))) hb; clear hb; have hz2 := BF.size; simp only [World.size_alloc] at hz2; have l2 : w.heap.size < w2.heap.size := (by omega); have m21 := World.block_lt_of_cell? _ _ K1_0; simp only at m21) | (go_at_call 8; with_reducible refine (point_n _ hC hC hD).mono ?_; rintro e w3 ⟨x3, y3, t3, hq3, ht3, rfl, hb⟩; replace z0_0 : w3.cell? ⟨w.heap.size, 0, none⟩ = some (.float .f64 x00) := keep hb (by first | exact z0_0 | go_keep); replace z0_1 : w3.cell? ⟨w.heap.size, 1, none⟩ = some (.float .f64 y00) := keep hb (by first | exact z0_1 | go_keep); replace z0_2 : w3.cell? ⟨w.heap.size, 2, none⟩ = some (.float .f64 x01) := keep hb (by first | exact z0_2 | go_keep); replace z0_3 : w3.cell? ⟨w.heap.size, 3, none⟩ = some (.float .f64 y01) := keep hb (by first | exact z0_3 | go_keep); replace z0_4 : w3.cell? ⟨w.heap.size, 4, none⟩ = some (.float .f64 x02) := keep hb (by first | exact z0_4 | go_keep); replace z0_5 : w3.cell? ⟨w.heap.size, 5, none⟩ = some (.float .f64 y02) := keep hb (by first | exact z0_5 | go_keep); replace z0_6 : w3.cell? ⟨w.heap.size, 6, none⟩ = some (.float .f64 x03) := keep hb (by first | exact z0_6 | go_keep); replace z0_7 : w3.cell? ⟨w.heap.size, 7, none⟩ = some (.float .f64 y03) := keep hb (by first | exact z0_7 | go_keep); replace K1_0 : w3.cell? ⟨w1.heap.size, 0, none⟩ = some (.float .f64 x1) := keep hb (by first | exact K1_0 | go_keep); replace K1_1 : w3.cell? ⟨w1.heap.size, 1, none⟩ = some (.float .f64 y1) := keep hb (by first | exact K1_1 | go_keep); have K2_0 : w3.cell? ⟨w2.heap.size, 0, none⟩ = some (.float .f64 x2) := keep hb (by go_keep); have K2_1 : w3.cell? ⟨w2.heap.size, 1, none⟩ = some (.float .f64 y2) := keep hb (by go_keep); replace BF := bl_trans (by repeat (first | exact BF | apply bl_alloc | refine bl_set ?_ (by (try simp only [World.size_alloc]); omega))) hb; clear hb; have hz3 := BF.size; simp only [World.size_alloc] at hz3; have l3 : w.heap.size < w3.heap.size := (by omega); have m31 := World.block_lt_of_cell? _ _ K1_0; simp only at m31; have m32 := World.block_lt_of_cell? _ _ K2_0; simp only at m32) | (go_at_call 9; with_reducible refine (rpoint_n _ hC hC hD).mono ?_; rintro e w4 ⟨x4, y4, t4, hq4, ht4, rfl, hb⟩; replace z0_0 : w4.cell? ⟨w.heap.size, 0, none⟩ = some (.float .f64 x00) := keep hb (by first | exact z0_0 | go_keep); replace z0_1 : w4.cell? ⟨w.heap.size, 1, none⟩ = some (.float .f64 y00) := keep hb (by first | exact z0_1 | go_keep); replace z0_2 : w4.cell? ⟨w.heap.size, 2, none⟩ = some (.float .f64 x01) := keep hb (by first | exact z0_2 | go_keep); replace z0_3 : w4.cell? ⟨w.heap.size, 3, none⟩ = some (.float .f64 y01) := keep hb (by first | exact z0_3 | go_keep); replace z0_4 : w4.cell? ⟨w.heap.size, 4, none⟩ = some (.float .f64 x02) := keep hb (by first | exact z0_4 | go_keep); replace z0_5 : w4.cell? ⟨w.heap.size, 5, none⟩ = some (.float .f64 y02) := keep hb (by first | exact z0_5 | go_keep); replace z0_6 : w4.cell? ⟨w.heap.size, 6, none⟩ = some (.float .f64 x03) := keep hb (by first | exact z0_6 | go_keep); replace z0_7 : w4.cell? ⟨w.heap.size, 7, none⟩ = some (.float .f64 y03) := keep hb (by first | exact z0_7 | go_keep); replace K1_0 : w4.cell? ⟨w1.heap.size, 0, none⟩ = some (.float .f64 x1) := keep hb (by first | exact K1_0 | go_keep); replace K1_1 : w4.cell? ⟨w1.heap.size, 1, none⟩ = some (.float .f64 y1) := keep hb (by first | exact K1_1 | go_keep); replace K2_0 : w4.cell? ⟨w2.heap.size, 0, none⟩ = some (.float .f64 x2) := keep hb (by first | exact K2_0 | go_keep); replace K2_1 : w4.cell? ⟨w2.heap.size, 1, none⟩ = some (.float .f64 y2) := keep hb (by first | exact K2_1 | go_keep); have K3_0 : w4.cell? ⟨w3.heap.size, 0, none⟩ = some (.float .f64 x3) := keep hb (by go_keep); have K3_1 : w4.cell? ⟨w3.heap.size, 1, none⟩ = some (.float .f64 y3) := keep hb (by go_keep); replace BF := bl_trans (by repeat (first | exact BF | apply bl_alloc | refine bl_set ?_ (by (try simp only [World.size_alloc]); omega))) hb; clear hb; have hz4 := BF.size; simp only [World.size_alloc] at hz4; have l4 : w.heap.size < w4.heap.size := (by omega); have m41 := World.block_lt_of_cell? _ _ K1_0; simp only at m41; have m42 := World.block_lt_of_cell? _ _ K2_0; simp only at m42; have m43 := World.block_lt_of_cell? _ _ K3_0; simp only at m43) | (go_at_call 10; with_reducible refine (sameVec_n _ hq1 hq2).mono ?_; rintro e w5 ⟨rfl, hb⟩; replace z0_0 : w5.cell? ⟨w.heap.size, 0, none⟩ = some (.float .f64 x00) := keep hb (by first | exact z0_0 | go_keep); replace z0_1 : w5.cell? ⟨w.heap.size, 1, none⟩ = some (.float .f64 y00) := keep hb (by first | exact z0_1 | go_keep); replace z0_2 : w5.cell? ⟨w.heap.size, 2, none⟩ = some (.float .f64 x01) := keep hb (by first | exact z0_2 | go_keep); replace z0_3 : w5.cell? ⟨w.heap.size, 3, none⟩ = some (.float .f64 y01) := keep hb (by first | exact z0_3 | go_keep); replace z0_4 : w5.cell? ⟨w.heap.size, 4, none⟩ = some (.float .f64 x02) := keep hb (by first | exact z0_4 | go_keep); replace z0_5 : w5.cell? ⟨w.heap.size, 5, none⟩ = some (.float .f64 y02) := keep hb (by first | exact z0_5 | go_keep); replace z0_6 : w5.cell? ⟨w.heap.size, 6, none⟩ = some (.float .f64 x03) := keep hb (by first | exact z0_6 | go_keep); replace z0_7 : w5.cell? ⟨w.heap.size, 7, none⟩ = some (.float .f64 y03) := keep hb (by first | exact z0_7 | go_keep); replace K3_0 : w5.cell? ⟨w3.heap.size, 0, none⟩ = some (.float .f64 x3) := keep hb (by first | exact K3_0 | go_keep); replace K3_1 : w5.cell? ⟨w3.heap.size, 1, none⟩ = some (.float .f64 y3) := keep hb (by first | exact K3_1 | go_keep); have K4_0 : w5.cell? ⟨w4.heap.size, 0, none⟩ = some (.float .f64 x4) := keep hb (by go_keep); have K4_1 : w5.cell? ⟨w4.heap.size, 1, none⟩ = some (.float .f64 y4) := keep hb (by go_keep); replace BF := bl_trans (by repeat (first | exact BF | apply bl_alloc | refine bl_set ?_ (by (try simp only [World.size_alloc]); omega))) hb; clear hb) | (go_at_call 10; with_reducible refine (sameVec_n _ hq3 hq4).mono ?_; rintro e w6 ⟨rfl, hb⟩; replace z0_0 : w6.cell? ⟨w.heap.size, 0, none⟩ = some (.float .f64 x00) := keep hb (by first | exact z0_0 | go_keep); replace z0_1 : w6.cell? ⟨w.heap.size, 1, none⟩ = some (.float .f64 y00) := keep hb (by first | exact z0_1 | go_keep); replace z0_2 : w6.cell? ⟨w.heap.size, 2, none⟩ = some (.float .f64 x01) := keep hb (by first | exact z0_2 | go_keep); replace z0_3 : w6.cell? ⟨w.heap.size, 3, none⟩ = some (.float .f64 y01) := keep hb (by first | exact z0_3 | go_keep); replace z0_4 : w6.cell? ⟨w.heap.size, 4, none⟩ = some (.float .f64 x02) := keep hb (by first | exact z0_4 | go_keep); replace z0_5 : w6.cell? ⟨w.heap.size, 5, none⟩ = some (.float .f64 y02) := keep hb (by first | exact z0_5 | go_keep); replace z0_6 : w6.cell? ⟨w.heap.size, 6, none⟩ = some (.float .f64 x03) := keep hb (by first | exact z0_6 | go_keep); replace z0_7 : w6.cell? ⟨w.heap.size, 7, none⟩ = some (.float .f64 y03) := keep hb (by first | exact z0_7 | go_keep); replace BF := bl_trans BF hb; clear hb) | (go_at_call 11; with_reducible refine (sameF_n _ ht1 ht2).mono ?_; rintro e w' ⟨rfl, rfl⟩) | (go_at_call 11; with_reducible refine (sameF_n _ ht3 ht4).mono ?_; rintro e w' ⟨rfl, rfl⟩))
  have B := hide (bl_trans B0 BF)
  clear BF B0
  go_region_held3 (fun w1 => w1.cell? ⟨w.heap.size, 0, none⟩ = some (.float .f64 x00) ∧ w1.cell? ⟨w.heap.size, 1, none⟩ = some (.float .f64 y00) ∧ w1.cell? ⟨w.heap.size, 2, none⟩ = some (.float .f64 x01) ∧ w1.cell? ⟨w.heap.size, 3, none⟩ = some (.float .f64 y01) ∧ w1.cell? ⟨w.heap.size, 4, none⟩ = some (.float .f64 x02) ∧ w1.cell? ⟨w.heap.size, 5, none⟩ = some (.float .f64 y02) ∧ w1.cell? ⟨w.heap.size, 6, none⟩ = some (.float .f64 x03) ∧ w1.cell? ⟨w.heap.size, 7, none⟩ = some (.float .f64 y03)) (first | go_keep | (go_split_ands; exact ⟨keep hb (by assumption), keep hb (by assumption), keep hb (by assumption), keep hb (by assumption), keep hb (by assumption), keep hb (by assumption), keep hb (by assumption), keep hb (by assumption)⟩))
    (first | (go_at_call 13; with_reducible refine (segments_n _ hA hB hC hD).mono ?_; rintro e w' ⟨nf11, na11, nb11, nc11, nd11, hN1, rfl, hb⟩; have B := hide (bl_trans (a := w) (by repeat (first | exact unhide B | exact bl_refl _ | apply bl_drew | apply bl_drewN | apply bl_alloc | refine bl_set ?_ (by simp <;> omega))) hb)) | (go_at_call 14; with_reducible refine (rsegments_n _ hA hB hC hD).mono ?_; rintro e w' ⟨nf21, na21, nb21, nc21, nd21, hM1, rfl, hb⟩; have B := hide (bl_trans (a := w) (by repeat (first | exact unhide B | exact bl_refl _ | apply bl_drew | apply bl_drewN | apply bl_alloc | refine bl_set ?_ (by simp <;> omega))) hb)) | (go_at_call 12; with_reducible refine (same_n _ hN1 hM1).mono ?_; rintro e w' ⟨rfl, hb⟩; have B := hide (bl_trans (a := w) (by repeat (first | exact unhide B | exact bl_refl _ | apply bl_drew | apply bl_drewN | apply bl_alloc | refine bl_set ?_ (by simp <;> omega))) hb)) | (go_at_call 13; with_reducible refine (segments_n _ hC hD hA hB).mono ?_; rintro e w' ⟨nf12, na12, nb12, nc12, nd12, hN2, rfl, hb⟩; have B := hide (bl_trans (a := w) (by repeat (first | exact unhide B | exact bl_refl _ | apply bl_drew | apply bl_drewN | apply bl_alloc | refine bl_set ?_ (by simp <;> omega))) hb)) | (go_at_call 14; with_reducible refine (rsegments_n _ hC hD hA hB).mono ?_; rintro e w' ⟨nf22, na22, nb22, nc22, nd22, hM2, rfl, hb⟩; have B := hide (bl_trans (a := w) (by repeat (first | exact unhide B | exact bl_refl _ | apply bl_drew | apply bl_drewN | apply bl_alloc | refine bl_set ?_ (by simp <;> omega))) hb)) | (go_at_call 12; with_reducible refine (same_n _ hN2 hM2).mono ?_; rintro e w' ⟨rfl, hb⟩; have B := hide (bl_trans (a := w) (by repeat (first | exact unhide B | exact bl_refl _ | apply bl_drew | apply bl_drewN | apply bl_alloc | refine bl_set ?_ (by simp <;> omega))) hb)))
  all_goals go_wp2
  go_region_held3 (fun w1 => w1.cell? ⟨w.heap.size, 0, none⟩ = some (.float .f64 x00) ∧ w1.cell? ⟨w.heap.size, 1, none⟩ = some (.float .f64 y00) ∧ w1.cell? ⟨w.heap.size, 2, none⟩ = some (.float .f64 x01) ∧ w1.cell? ⟨w.heap.size, 3, none⟩ = some (.float .f64 y01) ∧ w1.cell? ⟨w.heap.size, 4, none⟩ = some (.float .f64 x02) ∧ w1.cell? ⟨w.heap.size, 5, none⟩ = some (.float .f64 y02) ∧ w1.cell? ⟨w.heap.size, 6, none⟩ = some (.float .f64 x03) ∧ w1.cell? ⟨w.heap.size, 7, none⟩ = some (.float .f64 y03)) (first | go_keep | (go_split_ands; exact ⟨keep hb (by assumption), keep hb (by assumption), keep hb (by assumption), keep hb (by assumption), keep hb (by assumption), keep hb (by assumption), keep hb (by assumption), keep hb (by assumption)⟩))
    (first | (go_at_call 13; with_reducible refine (segments_n _ hA hA hC hD).mono ?_; rintro e w' ⟨nf13, na13, nb13, nc13, nd13, hN3, rfl, hb⟩; have B := hide (bl_trans (a := w) (by repeat (first | exact unhide B | exact bl_refl _ | apply bl_drew | apply bl_drewN | apply bl_alloc | refine bl_set ?_ (by simp <;> omega))) hb)) | (go_at_call 14; with_reducible refine (rsegments_n _ hA hA hC hD).mono ?_; rintro e w' ⟨nf23, na23, nb23, nc23, nd23, hM3, rfl, hb⟩; have B := hide (bl_trans (a := w) (by repeat (first | exact unhide B | exact bl_refl _ | apply bl_drew | apply bl_drewN | apply bl_alloc | refine bl_set ?_ (by simp <;> omega))) hb)) | (go_at_call 12; with_reducible refine (same_n _ hN3 hM3).mono ?_; rintro e w' ⟨rfl, hb⟩; have B := hide (bl_trans (a := w) (by repeat (first | exact unhide B | exact bl_refl _ | apply bl_drew | apply bl_drewN | apply bl_alloc | refine bl_set ?_ (by simp <;> omega))) hb)))
  all_goals go_wp2
  go_ret
  exact ⟨rfl, unhide B⟩

set_option maxRecDepth 100000 in
theorem lifted (os : Os) (started : os.Started) (H : Type) (enc : TypeId × Value → H) :
    ReturnsInHanded {} Try.checked os 3 .any (Rows.nearSegmentsSpec.pre6 enc Try.prog Try.f3 Rows.nearSegmentsRow.domain false) (Rows.nearSegmentsSpec.post enc Try.prog Try.f3 false true false false) := by
  refine returnsInHanded_of_change (C := Try.checked) own started (by kernel_rfl) Try.func3
    (ChangeSpec.witness6 (enc := enc) (C := Try.checked) false ⟨#[], #[.agg #[.float .f64 0, .float .f64 0, .float .f64 0, .float .f64 0, .float .f64 0, .float .f64 0, .float .f64 0, .float .f64 0]], []⟩ 8 (by kernel_rfl) (by kernel_rfl) (by kernel_rfl) (by kernel_rfl)) ?_
  intro W base args ds gs before hval0 hW hcnd _
  have hval : ∀ (j : Nat) t v, Try.f3.params[j]? = some t → args[j]? = some v → Value.okWide Try.prog W .any base t v := hval0
  have hW' := hW
  obtain ⟨p, q, hA0, hV, rfl, hfz, hnd⟩ := hW
  have hA : DataW.TrodAll enc Try.prog W 0 (fun _ => true) true Try.f3.params.toList args.toList ds p := hA0
  rw [Try.params3] at hA hval
  obtain ⟨v0, vs0, d0, ds0, p0, q0, hargs, rfl, rfl, h0, r0⟩ := trodAll_cons hA
  obtain ⟨rfl, rfl, rfl⟩ := trodAll_nil r0
  obtain rfl : args = #[v0] := by cases args; simp_all
  obtain ⟨rfl, rfl⟩ := trodVars_none hV
  obtain ⟨x00, y00, x01, y01, x02, y02, x03, y03, rfl, rfl, rfl, wx00, wy00, wx01, wy01, wx02, wy02, wx03, wy03⟩ := open_quad (hval 0 26 v0 rfl rfl) h0
  clear hA0 hval0
  simp only [List.append_nil] at hW'
  refine (walk x00 y00 x01 y01 x02 y02 x03 y03 (wf_f64 wx00) (wf_f64 wy00) (wf_f64 wx01) (wf_f64 wy01) (wf_f64 wx02) (wf_f64 wy02) (wf_f64 wx03) (wf_f64 wy03) W).mono fun e W' ⟨he, hg0⟩ => ?_
  have hg := hg0.grown
  subst he
  exact ⟨_, rfl, post_of_same (pa := []) (pv := []) hW' (fun _ _ _ => (trodAll_cons_mk (shut_bool Try.underlying4 _) trodAll_mk0)) (fun sp _ => (trodAll_cons_mk (shut_quad wx00 wy00 wx01 wy01 wx02 wy02 wx03 wy03) trodAll_mk0)) (fun _ _ => rfl) rfl
    (hg.frame _) hg.2.1 (ok_one (by kernel_rfl) rfl (okWide_bool_mk Try.underlying4 _))⟩

theorem over : Rows.nearSegmentsRow.holds Try.pinned (OpenSpec.ofChange Rows.nearSegmentsSpec) :=
  OpenClaim.holds_of_wide 3 Try.f3 rfl rfl rfl rfl rfl rfl rfl ⟨rfl, rfl, rfl, rfl, rfl⟩ rfl rfl rfl rfl rfl (by kernel_rfl) Try.func3 (by kernel_rfl)
    (of_decide_eq_true (by kernel_rfl)) (by unfold Func.isWrapper; first | (rw [if_pos (by decide +kernel)]; kernel_rfl) | (rw [if_neg (by decide +kernel)]; exact ⟨rfl, rfl⟩))
    (fun os started H enc _ => lifted os started H enc)

theorem proved : Rows.NearSegmentsSaid :=
  over
#print axioms proved
end Go.Proofs.Ytpnkmflkjokhlaa.nearSegments
