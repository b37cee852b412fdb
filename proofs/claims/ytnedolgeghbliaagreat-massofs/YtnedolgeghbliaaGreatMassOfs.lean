/-
  'tumblelaw08.MassOfs' is true of all rows of points.
-/
import Derived.Test.YtnedolgeghbliaaGreatRows
import Derived.Test.YtnedolgeghbliaaGreatMt
import Derived.Test.YtnedolgeghbliaaGreatMw
import Derived.WalkKit
import Derived.ProofKit
import Derived.OpenShut
import Derived.WalkLawsBesides
import Derived.WalkSpells
import Derived.Lib.SmallJoins
import Derived.Laws.Cover2
import Derived.Laws.AppendOwn
import Derived.Laws.OwnMore
import Derived.Laws.AppendOwnNone
import Derived.Deep.RegionHeld3
import Derived.Deep.RegionWith
import Derived.Deep.SlicePairs
import Derived.SizedLaws
import Derived.Below
import Derived.Laws.StructEq
namespace Go.Proofs.YtnedolgeghbliaaGreat.massOfs
open Go.ChangeShapes Go.WideShapes Go.ChangeAt Go.RowKit Go.Joins
set_option linter.unusedVariables false
set_option linter.unusedSimpArgs false

theorem own : ownKnob Tryz.prog.godebug = none := by kernel_rfl
theorem laidOut : laidOutB Tryz.prog = true := by kernel_rfl
theorem wf_f64 {x : Nat} (h : (Lit.float .f64 x).wf = true) : okK .f64 x := by
  rw [okK64]; simpa [Lit.wf] using h
theorem trod_fl {H : Type} {enc : TypeId × Value → H} {P : Program} {w : World} {base fuel : Nat} {spare : Nat → Bool} {held : Bool} {t : TypeId} {cs : List Value} {x : DataW H × List MemPlace} {k : FloatKind} (ht : P.underlying t = some (.float k)) (h : DataW.trod enc P w base spare held fuel t cs = some x) : ∃ z, cs = [.float k z] ∧ x = (.lit (.float k z), []) ∧ (Lit.float k z).wf = true := by
  cases fuel with
  | zero => simp [DataW.trod] at h
  | succ n =>
    unfold DataW.trod at h
    rw [ht] at h
    split at h <;> simp_all

theorem cellsH : Tryz.prog.cellsOf 25 = 3 := by kernel_rfl
theorem sized_agg3 {H : Type} {P : Program} {ts : List TypeId} {ds : List (DataW H)} (h : (DataW.weightsEach P ts ds).all (· ≤ reachBytes) = true) {j : Nat} {t e : TypeId} {f0 f1 f2 : Field} {d0 d1 : DataW H} {elems spare : List (DataW H)} (ht : ts[j]? = some t) (hd : ds[j]? = some (.agg [d0, d1, .slice elems spare])) (hu : P.underlying t = some (.struct #[f0, f1, f2])) (hu2 : P.underlying f2.type = some (.slice e)) :
    (elems.length + spare.length) * P.bytesOf e ≤ reachBytes := by
  have := List.all_eq_true.1 h _ (DataW.weights_mem_each ht hd ((elems.length + spare.length) * P.bytesOf e) (by simp [DataW.weights, DataW.weightsEach, hu, hu2]))
  simpa using this

set_option maxRecDepth 100000 in
set_option maxHeartbeats 8000000 in
theorem walk_any (V : Value) (n : Nat) (xs ys : Nat → Nat) (k : Int) (r : Nat) (hr : okK .f64 r) (d : Nat) (od : okK .f64 d) (w : World) (h : AnyS w V n xs ys) : Calls Tryz.prog 3 #[.agg #[.int .u8 k, .float .f64 r, V], .float .f64 d] w fun e w' => e = .returned (.bool true) ∧ Bel w w' := by
  obtain ⟨a, cap, rfl, a2, a3, a4, a5, a6⟩ := id h
  clear a6
  have z0_0 : (w.alloc (.cells #[.int .u8 k, .float .f64 r, .slice a n cap] 25)).cell? ⟨w.heap.size, 0, none⟩ = some (.int .u8 k) := by rw [World.cell?_alloc_new]; rfl
  have z0_1 : (w.alloc (.cells #[.int .u8 k, .float .f64 r, .slice a n cap] 25)).cell? ⟨w.heap.size, 1, none⟩ = some (.float .f64 r) := by rw [World.cell?_alloc_new]; rfl
  have z0_2 : (w.alloc (.cells #[.int .u8 k, .float .f64 r, .slice a n cap] 25)).cell? ⟨w.heap.size, 2, none⟩ = some (.slice a n cap) := by rw [World.cell?_alloc_new]; rfl
  have B0 : Bel w (w.alloc (.cells #[.int .u8 k, .float .f64 r, .slice a n cap] 25)) := bl_alloc (bl_refl w) _ _
  by_cases h100 : n ≤ 100
  · have g1 : ¬ (n : Int) > 100 := by omega
    go_enter Tryz.func3, Tryz.ntmps3
    go_wp2_with (first | (go_at_call 5; refine (alive8 _).mono ?_; rintro e w_1 ⟨rfl, hb⟩; have B1 := bl_trans B0 hb; have s0 := keep hb z0_0; have s1 := keep hb z0_1; have s2 := keep hb z0_2; have hx1 := h.bel B1) | (go_at_call 6; refine (lent8 _ n xs ys k r _ hx1 h100).mono ?_; rintro e w_2 ⟨g, c, rfl, hg, hL, hb⟩; replace s0 := keep hb s0; replace s1 := keep hb s1; replace s2 := keep hb s2; have bA := bl_alloc (bl_refl w_2) #[.int .u8 k, .float .f64 r, .slice (some ⟨g, 0, none⟩) n c] 25; have B2 := bl_trans (bl_trans B1 hb) bA; have L2 := hL.bel bA; replace s0 := up_alloc (o := .cells #[.int .u8 k, .float .f64 r, .slice (some ⟨g, 0, none⟩) n c] 25) s0; replace s1 := up_alloc (o := .cells #[.int .u8 k, .float .f64 r, .slice (some ⟨g, 0, none⟩) n c] 25) s1; replace s2 := up_alloc (o := .cells #[.int .u8 k, .float .f64 r, .slice (some ⟨g, 0, none⟩) n c] 25) s2; have t0 : (w_2.alloc (.cells #[.int .u8 k, .float .f64 r, .slice (some ⟨g, 0, none⟩) n c] 25)).cell? ⟨w_2.heap.size, 0, none⟩ = some (.int .u8 k) := (by rw [World.cell?_alloc_new]; rfl); have t1 : (w_2.alloc (.cells #[.int .u8 k, .float .f64 r, .slice (some ⟨g, 0, none⟩) n c] 25)).cell? ⟨w_2.heap.size, 1, none⟩ = some (.float .f64 r) := (by rw [World.cell?_alloc_new]; rfl); have t2 : (w_2.alloc (.cells #[.int .u8 k, .float .f64 r, .slice (some ⟨g, 0, none⟩) n c] 25)).cell? ⟨w_2.heap.size, 2, none⟩ = some (.slice (some ⟨g, 0, none⟩) n c) := (by rw [World.cell?_alloc_new]; rfl); have hA2 := L2.any a5 a4) | (go_at_call 7; refine (of_any _ n xs ys k r d _ hA2 hr).mono ?_; rintro e w_3 ⟨m1, j1, x1, y1, f1, hO1, rfl, hb⟩; replace s0 := keep hb s0; replace s1 := keep hb s1; replace s2 := keep hb s2; replace t0 := keep hb t0; replace t1 := keep hb t1; replace t2 := keep hb t2; have bM := bl_alloc (bl_refl w_3) #[.float .f64 m1, .float .f64 j1, .float .f64 x1, .float .f64 y1] 31; have B3 := bl_trans (bl_trans B2 hb) bM; have L3 := (L2.bel hb).bel bM; replace s0 := up_alloc (o := .cells #[.float .f64 m1, .float .f64 j1, .float .f64 x1, .float .f64 y1] 31) s0; replace s1 := up_alloc (o := .cells #[.float .f64 m1, .float .f64 j1, .float .f64 x1, .float .f64 y1] 31) s1; replace s2 := up_alloc (o := .cells #[.float .f64 m1, .float .f64 j1, .float .f64 x1, .float .f64 y1] 31) s2; replace t0 := up_alloc (o := .cells #[.float .f64 m1, .float .f64 j1, .float .f64 x1, .float .f64 y1] 31) t0; replace t1 := up_alloc (o := .cells #[.float .f64 m1, .float .f64 j1, .float .f64 x1, .float .f64 y1] 31) t1; replace t2 := up_alloc (o := .cells #[.float .f64 m1, .float .f64 j1, .float .f64 x1, .float .f64 y1] 31) t2; have u0 : (w_3.alloc (.cells #[.float .f64 m1, .float .f64 j1, .float .f64 x1, .float .f64 y1] 31)).cell? ⟨w_3.heap.size, 0, none⟩ = some (.float .f64 m1) := (by rw [World.cell?_alloc_new]; rfl); have u1 : (w_3.alloc (.cells #[.float .f64 m1, .float .f64 j1, .float .f64 x1, .float .f64 y1] 31)).cell? ⟨w_3.heap.size, 1, none⟩ = some (.float .f64 j1) := (by rw [World.cell?_alloc_new]; rfl); have u2 : (w_3.alloc (.cells #[.float .f64 m1, .float .f64 j1, .float .f64 x1, .float .f64 y1] 31)).cell? ⟨w_3.heap.size, 2, none⟩ = some (.float .f64 x1) := (by rw [World.cell?_alloc_new]; rfl); have u3 : (w_3.alloc (.cells #[.float .f64 m1, .float .f64 j1, .float .f64 x1, .float .f64 y1] 31)).cell? ⟨w_3.heap.size, 3, none⟩ = some (.float .f64 y1) := (by rw [World.cell?_alloc_new]; rfl); have hx3 := h.bel B3) | (go_at_call 8; refine (rof_any _ n xs ys k r d _ hx3 hr).mono ?_; rintro e w_4 ⟨m2, j2, x2, y2, f2, hO2, rfl, hb⟩; obtain ⟨e1, e2, e3, e4, rfl⟩ := hO1.sm hO2; replace s0 := keep hb s0; replace s1 := keep hb s1; replace s2 := keep hb s2; replace t0 := keep hb t0; replace t1 := keep hb t1; replace t2 := keep hb t2; replace u0 := keep hb u0; replace u1 := keep hb u1; replace u2 := keep hb u2; replace u3 := keep hb u3; have bN := bl_alloc (bl_refl w_4) #[.float .f64 m2, .float .f64 j2, .float .f64 x2, .float .f64 y2] 31; have B4 := bl_trans (bl_trans B3 hb) bN; have L4 := (L3.bel hb).bel bN; replace s0 := up_alloc (o := .cells #[.float .f64 m2, .float .f64 j2, .float .f64 x2, .float .f64 y2] 31) s0; replace s1 := up_alloc (o := .cells #[.float .f64 m2, .float .f64 j2, .float .f64 x2, .float .f64 y2] 31) s1; replace s2 := up_alloc (o := .cells #[.float .f64 m2, .float .f64 j2, .float .f64 x2, .float .f64 y2] 31) s2; replace t0 := up_alloc (o := .cells #[.float .f64 m2, .float .f64 j2, .float .f64 x2, .float .f64 y2] 31) t0; replace t1 := up_alloc (o := .cells #[.float .f64 m2, .float .f64 j2, .float .f64 x2, .float .f64 y2] 31) t1; replace t2 := up_alloc (o := .cells #[.float .f64 m2, .float .f64 j2, .float .f64 x2, .float .f64 y2] 31) t2; replace u0 := up_alloc (o := .cells #[.float .f64 m2, .float .f64 j2, .float .f64 x2, .float .f64 y2] 31) u0; replace u1 := up_alloc (o := .cells #[.float .f64 m2, .float .f64 j2, .float .f64 x2, .float .f64 y2] 31) u1; replace u2 := up_alloc (o := .cells #[.float .f64 m2, .float .f64 j2, .float .f64 x2, .float .f64 y2] 31) u2; replace u3 := up_alloc (o := .cells #[.float .f64 m2, .float .f64 j2, .float .f64 x2, .float .f64 y2] 31) u3) | (go_at_call 9; refine (same8 _ _ _ _ _ _ _ _ _ e1 e2 e3 e4).mono ?_; rintro e w_5 ⟨rfl, hb⟩; replace s0 := keep hb s0; replace s1 := keep hb s1; replace s2 := keep hb s2; replace t0 := keep hb t0; replace t1 := keep hb t1; replace t2 := keep hb t2; have B5 := bl_trans B4 hb; have L5 := L4.bel hb; have hx5 := h.bel B5) | (go_at_call 10; refine (kept8 g c _ n xs ys k r _ L5 hx5 h100).mono ?_; rintro e w_6 ⟨rfl, hb⟩; have B6 := bl_trans B5 hb))
    go_ret
    exact ⟨rfl, B6⟩
  · have g1 : (n : Int) > 100 := by omega
    go_enter Tryz.func3, Tryz.ntmps3
    go_wp2_with (first | (go_at_call 5; refine (alive8 _).mono ?_; rintro e w_1 ⟨rfl, hb⟩; have B1 := bl_trans B0 hb; have s0 := keep hb z0_0; have s1 := keep hb z0_1; have s2 := keep hb z0_2; have hx1 := h.bel B1))
    go_ret
    exact ⟨rfl, B1⟩

/-- a row of ways: none, or len of them in cells, with room for cap -/
def IsWays (w : World) (a : Option Addr) (len cap : Nat) : Prop :=
  (a = none ∧ len = 0 ∧ cap = 0) ∨ ∃ (x : Addr) (xs ys : Nat → Nat), a = some x ∧ len ≤ cap ∧ cap ≤ maxLen ∧ len * 16 ≤ 140737488351232 ∧ ∀ i, i < len → w.cell? (x.add (i * 2)) = some (.float .f64 (xs i)) ∧ w.cell? (x.add (i * 2 + 1)) = some (.float .f64 (ys i)) ∧ okK .f64 (xs i) ∧ okK .f64 (ys i)
theorem any_of {w : World} {a : Option Addr} {len cap : Nat} (h : IsWays w a len cap) : ∃ xs ys, AnyS w (.slice a len cap) len xs ys := by
  rcases h with ⟨rfl, rfl, rfl⟩ | ⟨x, xs, ys, rfl, hl, hm, hr, hcell⟩
  · exact ⟨fun _ => 0, fun _ => 0, _, _, rfl, Nat.le_refl _, by decide, by decide, fun i hi => by omega, .inl rfl⟩
  · refine ⟨xs, ys, _, _, rfl, hl, Nat.le_trans hl hm, hr, fun i hi => ⟨(hcell i hi).2.2.1, (hcell i hi).2.2.2⟩, ?_⟩
    rcases Nat.eq_zero_or_pos len with h0 | h0
    · exact .inl h0
    · right
      obtain ⟨b, off, spot⟩ := x
      have hspot : spot = none := by simpa [Addr.add] using World.cell?_spot (hcell 0 h0).1
      subst hspot
      refine ⟨h0, b, off, rfl, fun i hi => ⟨?_, ?_⟩⟩
      · have h := (hcell i hi).1
        rw [add_plain] at h
        exact h
      · have h := (hcell i hi).2.1
        rw [add_plain, ← Nat.add_assoc] at h
        exact h
theorem walk (n0 : Int) (rad0 : Nat) (or0 : okK .f64 rad0) (a0 : Option Addr) (len0 cap0 : Nat) (s1 : Nat) (os1 : okK .f64 s1) (w : World) (h0 : IsWays w a0 len0 cap0) :
    Calls Tryz.prog 3 #[.agg #[.int .u8 n0, .float .f64 rad0, .slice a0 len0 cap0], .float .f64 s1] w fun e w' => e = .returned (.bool true) ∧ Below w.heap.size w w' := by
  obtain ⟨xs0, ys0, g0⟩ := any_of h0
  exact (walk_any _ _ xs0 ys0 n0 rad0 or0 s1 os1 w g0).mono fun e w' h => ⟨h.1, h.2.1⟩

set_option maxRecDepth 100000 in
set_option maxHeartbeats 2000000 in
theorem lifted (os : Os) (started : os.Started) (H : Type) (enc : TypeId × Value → H) :
    ReturnsInHanded {} Tryz.checked os 3 .any (Rows.massOfsSpec.pre6 enc Tryz.prog Tryz.f3 Rows.massOfsRow.domain false) (Rows.massOfsSpec.post enc Tryz.prog Tryz.f3 false true false false) := by
  refine returnsInHanded_of_change_sized (C := Tryz.checked) own started (by kernel_rfl) Tryz.func3
    (ChangeSpec.witness6 (enc := enc) (C := Tryz.checked) false ⟨#[], #[.agg #[.int .u8 0, .float .f64 0, .slice none 0 0], .float .f64 0], []⟩ 8 (by kernel_rfl) (by kernel_rfl) (by kernel_rfl) (by kernel_rfl)) ?_
  intro W base args ds gs before hval0 hW hcnd hsz0 _
  have hsz : (DataW.weightsEach Tryz.prog (Tryz.f3.params.toList ++ Rows.massOfsSpec.plain.varTypes Tryz.prog) (ds ++ gs)).all (· ≤ reachBytes) = true := hsz0
  have hval : ∀ (j : Nat) t v, Tryz.f3.params[j]? = some t → args[j]? = some v → Value.okWide Tryz.prog W .any base t v := hval0
  have hW' := hW
  obtain ⟨p, q, hA0, hV, rfl, hfz, hnd⟩ := hW
  have hA : DataW.TrodAll enc Tryz.prog W 0 (fun _ => true) true Tryz.f3.params.toList args.toList ds p := hA0
  rw [Tryz.params3] at hA hval hsz
  obtain ⟨v0, vs0, d0, ds0, p0, q0, hargs, rfl, rfl, h0, r0⟩ := trodAll_cons hA
  obtain ⟨v1, vs1, d1, ds1, p1, q1, rfl, rfl, rfl, h1, r1⟩ := trodAll_cons r0
  obtain ⟨rfl, rfl, rfl⟩ := trodAll_nil r1
  obtain rfl : args = #[v0, v1] := by cases args; simp_all
  obtain ⟨rfl, rfl⟩ := trodVars_none hV
  have k0 := h0
  have lt0 : ∀ x ∈ p0, x.block < W.heap.size := by obtain ⟨m, hm⟩ := k0; exact DataW.trod_lt m _ _ _ hm
  obtain ⟨c0, kk0, b0, z0, u0, t0, m0, rfl, hd0, hp0, hz0, hu0, ht0⟩ := open_agg3 Tryz.underlying25 (by kernel_rfl) cellsH (hval 0 25 v0 rfl rfl) h0
  obtain ⟨n0, e0, hn0, wn0⟩ := DataW.trod_int Tryz.underlying5 hz0
  obtain ⟨rad0, e1, hr0, wr0⟩ := trod_fl Tryz.underlying22 hu0
  simp at e0 e1
  subst e0 e1
  obtain ⟨s1, rfl, rfl, rfl, ws1⟩ := open_float Tryz.underlying22 (hval 1 22 v1 rfl rfl) h1
  have w0 : ∃ a len cap, b0 = .slice a len cap ∧ IsWays W a len cap := by
    rcases Go.Deep.open_slice_pairs Tryz.underlying23 Tryz.underlying29 (by kernel_rfl) rfl rfl (by kernel_rfl) (by kernel_rfl) ht0 with ⟨hcs, _⟩ | ⟨x, l, c, m, n, V0, V1, D0, D1, P0, P1, hcs, _, hl, hm, hmm, hx, hcell⟩
    · simp at hcs
      exact ⟨_, _, _, hcs, .inl ⟨rfl, rfl, rfl⟩⟩
    · simp at hcs
      rw [hx] at hd0
      have hr := sized_agg3 (j := 0) hsz rfl (by rw [hd0]; rfl) Tryz.underlying25 Tryz.underlying23
      rw [show Tryz.prog.bytesOf 29 = 16 by kernel_rfl] at hr
      simp only [List.length_map, List.length_range, reachBytes] at hr
      have hlm : l ≤ m := by rw [hmm]; split <;> omega
      have V : ∀ i, ∃ xy : Nat × Nat, i < m → V0 i = .float .f64 xy.1 ∧ V1 i = .float .f64 xy.2 ∧ okK .f64 xy.1 ∧ okK .f64 xy.2 := by
        intro i
        by_cases hi : i < m
        · obtain ⟨_, _, h3, h4⟩ := hcell i hi
          obtain ⟨x, e0, _, wx⟩ := trod_fl Tryz.underlying22 h3
          obtain ⟨y, e1, _, wy⟩ := trod_fl Tryz.underlying22 h4
          simp at e0 e1
          exact ⟨(x, y), fun _ => ⟨e0, e1, wf_f64 wx, wf_f64 wy⟩⟩
        · exact ⟨(0, 0), fun h => absurd h hi⟩
      have V' := Classical.axiomOfChoice V
      obtain ⟨f, hf'⟩ := V'
      refine ⟨_, _, _, hcs, .inr ⟨x, fun i => (f i).1, fun i => (f i).2, rfl, hl, hm, by omega, fun i hi => ?_⟩⟩
      obtain ⟨e0, e1, o0, o1⟩ := hf' i (by omega)
      obtain ⟨c0, c1, _, _⟩ := hcell i (by omega)
      rw [e0] at c0
      rw [e1] at c1
      exact ⟨c0, c1, o0, o1⟩
  obtain ⟨a0, len0, cap0, rfl, w0⟩ := w0
  clear hA0 hval0 hsz0
  refine (walk n0 rad0 (wf_f64 wr0) a0 len0 cap0 s1 (wf_f64 ws1) W w0).mono fun e W' ⟨he, bel0⟩ => ?_
  have bel := bel0
  subst he
  exact ⟨_, rfl, _, _, _, [], _, [], hW', trodAll_mk1 (shut_bool Tryz.underlying4 _), (trodAll_cons_mk (Below.trod laidOut (by kernel_rfl) (of_decide_eq_true (by kernel_rfl)) k0 bel lt0) (trodAll_cons_mk (shut_float Tryz.underlying22 ws1) trodAll_mk0)), rfl, bel.frame _, fun h => by cases h⟩

theorem over : Rows.massOfsRow.holds Tryz.pinned (OpenSpec.ofChange Rows.massOfsSpec) :=
  OpenClaim.holds_of_wide 3 Tryz.f3 rfl rfl rfl rfl rfl rfl rfl ⟨rfl, rfl, rfl, rfl, rfl⟩ rfl rfl rfl rfl rfl (by kernel_rfl) Tryz.func3 (by kernel_rfl)
    (of_decide_eq_true (by kernel_rfl)) (by unfold Func.isWrapper; first | (rw [if_pos (by decide +kernel)]; kernel_rfl) | (rw [if_neg (by decide +kernel)]; exact ⟨rfl, rfl⟩))
    (fun os started H enc _ => lifted os started H enc)

theorem proved : Rows.MassOfsSaid :=
  over
#print axioms proved
end Go.Proofs.YtnedolgeghbliaaGreat.massOfs
