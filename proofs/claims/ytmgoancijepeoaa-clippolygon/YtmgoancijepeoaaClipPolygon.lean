/-
  'tumblelaw09.ClipPolygon' is true of all planes and rows of points.
-/
import Derived.Test.YtmgoancijepeoaaRows
import Derived.Test.YtmgoancijepeoaaDg
import Derived.WalkKit
import Derived.ProofKit
import Derived.OpenShut
import Derived.WalkLawsBesides
import Derived.WalkSpells
import Derived.Lib.SmallJoins
import Derived.Laws.Cover2
import Derived.Laws.AppendOwn
import Derived.Laws.OwnMore
import Derived.Laws.AppendOwnNone
import Derived.Deep.RegionHeld3
import Derived.Deep.RegionWith
import Derived.Deep.SlicePairs
import Derived.SizedLaws
import Derived.Below
import Derived.Laws.StructEq
namespace Go.Proofs.Ytmgoancijepeoaa.clipPolygon
open Go.ChangeShapes Go.WideShapes Go.ChangeAt Go.RowKit Go.Joins
set_option linter.unusedVariables false
set_option linter.unusedSimpArgs false

theorem own : ownKnob Try.prog.godebug = none := by kernel_rfl
theorem laidOut : laidOutB Try.prog = true := by kernel_rfl
theorem wf_f64 {x : Nat} (h : (Lit.float .f64 x).wf = true) : okK .f64 x := by
  rw [okK64]; simpa [Lit.wf] using h
theorem trod_fl {H : Type} {enc : TypeId × Value → H} {P : Program} {w : World} {base fuel : Nat} {spare : Nat → Bool} {held : Bool} {t : TypeId} {cs : List Value} {x : DataW H × List MemPlace} {k : FloatKind} (ht : P.underlying t = some (.float k)) (h : DataW.trod enc P w base spare held fuel t cs = some x) : ∃ z, cs = [.float k z] ∧ x = (.lit (.float k z), []) ∧ (Lit.float k z).wf = true := by
  cases fuel with
  | zero => simp [DataW.trod] at h
  | succ n =>
    unfold DataW.trod at h
    rw [ht] at h
    split at h <;> simp_all

theorem cellsV : Try.prog.cellsOf 24 = 2 := by kernel_rfl
set_option maxRecDepth 100000 in
theorem open_plane {H : Type} {enc : TypeId × Value → H} {w : World} {base : Nat} {spare : Nat → Bool} {held : Bool} {r : Reach} {b0 : Nat} {v : Value} {d : DataW H} {p : List MemPlace}
    (hv : Value.okWide Try.prog w r b0 26 v) (h : DataW.Trod enc Try.prog w base spare held 26 v d p) :
    ∃ a b c : Nat, v = .agg #[.float .f64 a, .float .f64 b, .float .f64 c] ∧ d = .agg [.agg [.lit (.float .f64 a), .lit (.float .f64 b)], .lit (.float .f64 c)] ∧ p = [] ∧
      (Lit.float .f64 a).wf = true ∧ (Lit.float .f64 b).wf = true ∧ (Lit.float .f64 c).wf = true := by
  obtain ⟨cs, rfl, hsz⟩ := okWide_struct Try.underlying26 hv
  obtain ⟨c0, c1, c2, rfl⟩ := array3 (hsz.trans (by kernel_rfl))
  obtain ⟨fuel, hf⟩ := h
  obtain ⟨y0, y1, n, hx, _, h0, h1⟩ := trod_struct2 Try.underlying26 hf
  simp [Value.cells, cellsV, show Try.prog.cellsOf 22 = 1 by kernel_rfl] at h0 h1
  obtain ⟨z0, z1, n2, hz, _, h4, h5⟩ := trod_struct2 Try.underlying24 h0
  simp [show Try.prog.cellsOf 22 = 1 by kernel_rfl] at h4 h5
  obtain ⟨a, e0, rfl, wa⟩ := trod_fl Try.underlying22 h4
  obtain ⟨b, e1, rfl, wb⟩ := trod_fl Try.underlying22 h5
  obtain ⟨c, e2, rfl, wc⟩ := trod_fl Try.underlying22 h1
  simp at e0 e1 e2
  subst e0 e1 e2
  subst hz
  simp only [Prod.mk.injEq] at hx
  exact ⟨a, b, c, rfl, hx.1, hx.2, wa, wb, wc⟩
set_option maxRecDepth 100000 in
theorem shut_plane {H : Type} {enc : TypeId × Value → H} {w : World} {base : Nat} {spare : Nat → Bool} {held : Bool} {a b c : Nat} (wa : (Lit.float .f64 a).wf = true) (wb : (Lit.float .f64 b).wf = true) (wc : (Lit.float .f64 c).wf = true) :
    DataW.Trod enc Try.prog w base spare held 26 (.agg #[.float .f64 a, .float .f64 b, .float .f64 c]) (.agg [.agg [.lit (.float .f64 a), .lit (.float .f64 b)], .lit (.float .f64 c)]) [] := by
  have cf : Try.prog.cellsOf 22 = 1 := by kernel_rfl
  have tv : DataW.trod enc Try.prog w base spare held 2 24 [.float .f64 a, .float .f64 b] = some (.agg [.lit (.float .f64 a), .lit (.float .f64 b)], []) :=
    trod_struct2_mk (y0 := (.lit (.float .f64 a), [])) (y1 := (.lit (.float .f64 b), [])) Try.underlying24 (by simp [cellsV]) (by simp [cf, DataW.trod, Try.underlying22, wa]) (by simp [cf, DataW.trod, Try.underlying22, wb])
  exact ⟨3, trod_struct2_mk (y0 := (.agg [.lit (.float .f64 a), .lit (.float .f64 b)], [])) (y1 := (.lit (.float .f64 c), [])) Try.underlying26 (by simp [Value.cells]; kernel_rfl) (by simpa [Value.cells, cellsV] using tv) (by simp [cf, cellsV, Value.cells, DataW.trod, Try.underlying22, wc])⟩


theorem pgL_len {p : Pn} {xs ys : Nat → Nat} {n : Nat} (o : Oks xs ys n) : (pgL p xs ys n).length ≤ 128 := by
  unfold pgL
  split
  · rename_i h0
    have hc : chkE xs ys n = 0 := by
      unfold pgE at h0
      split at h0
      · exact h0
      · cases h0
    obtain ⟨_, _, h64, _⟩ := chk_ok o hc
    have := leftL_len p (lst xs ys n)
    rw [lst_len] at this
    omega
  · exact Nat.zero_le _
theorem same_new (v v' : Value) (b1 b2 : Nat) (N : List Pt) (w : World) (h : NewS b1 w v N) (h' : RowS b2 w v' N) (hl : N.length ≤ 128) : Calls Try.prog 14 #[v, v'] w fun e w' => e = .returned (.bool true) ∧ Bel w w' := by
  obtain ⟨a, c, rfl, hc, h2⟩ := h'
  rcases h with ⟨rfl, rfl⟩ | ⟨h0, g, rfl, hg, hS, _⟩
  · exact same_nil none a 0 c w
  · rcases h2 with h2 | ⟨q, o, rfl, _, hS2⟩
    · omega
    · exact same_eq g 0 _ q o c _ _ _ w hS hS2 (by unfold maxLen; omega) (Nat.le_refl _) hc
/-- the sides that are answered: none, or so many planes in a row of the call's own -/
def SdS (base : Nat) (w : World) (v : Value) (n : Nat) (z : Int) (P : Nat → Pn) : Prop := (¬ z = 0 ∧ v = .slice none 0 0) ∨ (z = 0 ∧ 0 < n ∧ n ≤ 64 ∧ ∃ r c, v = .slice (some ⟨r, 0, none⟩) n c ∧ n ≤ c ∧ base ≤ r ∧ Sp w r 0 n P)
theorem SdS.bel {base : Nat} {w w' : World} {v : Value} {n : Nat} {z : Int} {P : Nat → Pn} (h : SdS base w v n z P) (g : Bel w w') : SdS base w' v n z P := by
  rcases h with h | ⟨h1, h2, h3, r, c, e, h4, h5, h6⟩
  · exact .inl h
  · exact .inr ⟨h1, h2, h3, r, c, e, h4, h5, h6.bel g⟩
theorem same_sd (v v' : Value) (b1 b2 n : Nat) (z : Int) (P : Nat → Pn) (w : World) (h : SdS b1 w v n z P) (h' : SdS b2 w v' n z P) : Calls Try.prog 24 #[v, v'] w fun e w' => e = .returned (.bool true) ∧ Bel w w' := by
  rcases h with ⟨h0, rfl⟩ | ⟨h1, h2, h3, r, c, rfl, h4, h5, h6⟩
  · rcases h' with ⟨_, rfl⟩ | ⟨h1, _⟩
    · exact sp_nil w
    · exact absurd h1 h0
  · rcases h' with ⟨h0, _⟩ | ⟨_, _, _, r', c', rfl, h4', _, h6'⟩
    · exact absurd h1 h0
    · exact sp_eq r c r' c' n P w h6 h6' (by omega) h4 h4'
theorem sides_any (V : Value) (n : Nat) (xs ys : Nat → Nat) (w : World) (h : AnyS w V n xs ys) : Calls Try.prog 22 #[V] w fun e w' => ∃ v, e = .returned (.tuple #[v, .int .i64 (chkE xs ys n)]) ∧ SdS w.heap.size w' v n (chkE xs ys n) (sdP xs ys n) ∧ Bel w w' := by
  by_cases hz : (chkE xs ys n) = 0
  · obtain ⟨a, cap, rfl, h2, h3, h4, h5, h6⟩ := h
    obtain ⟨_, k3, k64, _⟩ := chk_ok h5 hz
    rcases h6 with h0 | ⟨h0, b, off, rfl, hs⟩
    · omega
    · refine (sides_ok b off n cap xs ys w hs h5 h0 h3 h2 hz).mono fun e w' ⟨r, he, hr, hP, hb⟩ => ⟨_, by rw [he, hz], .inr ⟨hz, h0, k64, r, n, rfl, Nat.le_refl _, hr, hP⟩, hb⟩
  · exact (sides_bad V n xs ys w h hz).mono fun e w' ⟨he, hb⟩ => ⟨_, he, .inl ⟨hz, rfl⟩, hb⟩
theorem rsides_any (V : Value) (n : Nat) (xs ys : Nat → Nat) (w : World) (h : AnyS w V n xs ys) : Calls Try.prog 23 #[V] w fun e w' => ∃ v, e = .returned (.tuple #[v, .int .i64 (chkE xs ys n)]) ∧ SdS w.heap.size w' v n (chkE xs ys n) (sdP xs ys n) ∧ Bel w w' := by
  by_cases hz : (chkE xs ys n) = 0
  · obtain ⟨a, cap, rfl, h2, h3, h4, h5, h6⟩ := h
    obtain ⟨_, k3, k64, _⟩ := chk_ok h5 hz
    rcases h6 with h0 | ⟨h0, b, off, rfl, hs⟩
    · omega
    · refine (rsides_ok b off n cap xs ys w hs h5 h0 h3 h2 h4 hz).mono fun e w' ⟨r, c, he, hc, hr, hP, hb⟩ => ⟨_, by rw [he, hz], .inr ⟨hz, h0, k64, r, c, rfl, hc, hr, hP⟩, hb⟩
  · exact (rsides_bad V n xs ys w h hz).mono fun e w' ⟨he, hb⟩ => ⟨_, he, .inl ⟨hz, rfl⟩, hb⟩
theorem spoil_new (v : Value) (base : Nat) (N : List Pt) (w : World) (h : NewS base w v N) (hl : N.length ≤ 128) (hbase : base ≤ w.heap.size) {m : Nat} (hm : ∀ q o l c, v = .slice (some ⟨q, o, none⟩) l c → q < m) : Calls Try.prog 15 #[v] w fun e w' => e = .returned (.tuple #[]) ∧ ∃ g, base ≤ g ∧ g ≤ w.heap.size ∧ Mo g w w' ∧ (g < m ∨ Bel w w') := by
  rcases h with ⟨rfl, rfl⟩ | ⟨h0, g, rfl, hg, hS, hf⟩
  · exact (spoil_nil w).mono fun e w' ⟨he, hb⟩ => ⟨he, w.heap.size, hbase, Nat.le_refl _, (Mo.refl _ _).on hb, .inr hb⟩
  · have hlt := hS.lt h0
    exact (spoil_full g _ _ _ w hS h0 (by omega) hf).mono fun e w' ⟨he, hm'⟩ => ⟨he, g, hg, Nat.le_of_lt hlt, hm', .inl (hm g 0 _ _ rfl)⟩
theorem rowS_mo {base g : Nat} {w w' : World} {v : Value} {N : List Pt} (h : RowS base w v N) (m : Mo g w w') (hg : g < base) : RowS base w' v N := by
  obtain ⟨a, c, e, h1, h2⟩ := h
  refine ⟨a, c, e, h1, ?_⟩
  rcases h2 with h2 | ⟨q, o, h2, hb, h3⟩
  · exact .inl h2
  · exact .inr ⟨q, o, h2, hb, m.sl h3 (by omega)⟩
theorem rowS_mo2 {base g : Nat} {w w' : World} {v : Value} {N : List Pt} (h : RowS base w v N) (m : Mo g w w') (hg : ∀ q, q < w.heap.size → base ≤ q → q ≠ g) : RowS base w' v N := by
  obtain ⟨a, c, e, h1, h2⟩ := h
  refine ⟨a, c, e, h1, ?_⟩
  rcases h2 with h2 | ⟨q, o, h2, hb, h3⟩
  · exact .inl h2
  · rcases Nat.eq_zero_or_pos N.length with h0 | h0
    · exact .inl h0
    · exact .inr ⟨q, o, h2, hb, m.sl h3 (hg q (h3.lt h0) hb)⟩
theorem sdS_mo {base g : Nat} {w w' : World} {v : Value} {n : Nat} {z : Int} {P : Nat → Pn} (h : SdS base w v n z P) (m : Mo g w w') (hg : ∀ q, base ≤ q → q < w.heap.size → q ≠ g) : SdS base w' v n z P := by
  rcases h with h | ⟨h1, h2, h3, r, c, e, h4, h5, h6⟩
  · exact .inl h
  · have hr := World.block_lt_of_cell? _ _ (h6 0 h2).1
    simp only at hr
    have hne := hg r h5 hr
    exact .inr ⟨h1, h2, h3, r, c, e, h4, h5, fun i hi => ⟨(m.cell _ _ hr hne).trans (h6 i hi).1, (m.cell _ _ hr hne).trans (h6 i hi).2.1, (m.cell _ _ hr hne).trans (h6 i hi).2.2⟩⟩
theorem new_low {base : Nat} {w : World} {v : Value} {N : List Pt} (h : NewS base w v N) : ∀ q o l c, v = .slice (some ⟨q, o, none⟩) l c → q < w.heap.size := by
  intro q o l c e
  rcases h with ⟨_, rfl⟩ | ⟨h0, g, rfl, hg, hS, hf⟩
  · cases e
  · cases e
    exact hS.lt h0
theorem row_low {base : Nat} {w : World} {v : Value} {N : List Pt} (h : RowS base w v N) : ∀ q o l c, v = .slice (some ⟨q, o, none⟩) l c → 0 < N.length → q < w.heap.size := by
  intro q o l c e h0
  obtain ⟨a, c', rfl, h1, h2⟩ := h
  rcases h2 with h2 | ⟨q', o', rfl, hb, h3⟩
  · omega
  · cases e
    exact h3.lt h0
theorem sd_low {base : Nat} {w : World} {v : Value} {n : Nat} {z : Int} {P : Nat → Pn} (h : SdS base w v n z P) : ∀ q o l c, v = .slice (some ⟨q, o, none⟩) l c → q < w.heap.size := by
  intro q o l c e
  rcases h with ⟨_, rfl⟩ | ⟨h1, h2, h3, r, c', rfl, h4, h5, h6⟩
  · cases e
  · cases e
    exact World.block_lt_of_cell? _ _ (h6 0 h2).1
theorem rowS_mo3 {base g : Nat} {w w' : World} {v : Value} {N : List Pt} (h : RowS base w v N) (m : Mo g w w') (hg : ∀ q o l c, v = .slice (some ⟨q, o, none⟩) l c → 0 < N.length → base ≤ q → q ≠ g) : RowS base w' v N := by
  obtain ⟨a, c, e, h1, h2⟩ := h
  refine ⟨a, c, e, h1, ?_⟩
  rcases h2 with h2 | ⟨q, o, h2, hb, h3⟩
  · exact .inl h2
  · rcases Nat.eq_zero_or_pos N.length with h0 | h0
    · exact .inl h0
    · exact .inr ⟨q, o, h2, hb, m.sl h3 (hg q o _ _ (by rw [e, h2]) h0 hb)⟩
theorem lent9_mo {g q c n : Nat} {w w' : World} {xs ys : Nat → Nat} (h : Lent9 w q c n xs ys) (m : Mo g w w') (hne : q ≠ g) : Lent9 w' q c n xs ys :=
  ⟨h.1, h.2.1, m.sl h.2.2.1 hne, (m.cell _ _ (World.block_lt_of_cell? _ _ h.2.2.2) hne).trans h.2.2.2⟩

set_option maxRecDepth 100000 in
set_option maxHeartbeats 8000000 in
theorem walk_any (nx ny fd : Nat) (o1 : okK .f64 nx) (o2 : okK .f64 ny) (o3 : okK .f64 fd) (V : Value) (n : Nat) (xs ys : Nat → Nat) (w : World) (h : AnyS w V n xs ys) : Calls Try.prog 4 #[.agg #[.float .f64 nx, .float .f64 ny, .float .f64 fd], V] w fun e w' => e = .returned (.bool true) ∧ Bel w w' := by
  have hlen : (pgL (nx, ny, fd) xs ys n).length ≤ 128 := by obtain ⟨_, _, _, _, _, _, ho, _⟩ := h; exact pgL_len ho
  have z0_0 : (w.alloc (.cells #[.float .f64 nx, .float .f64 ny, .float .f64 fd] 26)).cell? ⟨w.heap.size, 0, none⟩ = some (.float .f64 nx) := by rw [World.cell?_alloc_new]; rfl
  have z0_1 : (w.alloc (.cells #[.float .f64 nx, .float .f64 ny, .float .f64 fd] 26)).cell? ⟨w.heap.size, 1, none⟩ = some (.float .f64 ny) := by rw [World.cell?_alloc_new]; rfl
  have z0_2 : (w.alloc (.cells #[.float .f64 nx, .float .f64 ny, .float .f64 fd] 26)).cell? ⟨w.heap.size, 2, none⟩ = some (.float .f64 fd) := by rw [World.cell?_alloc_new]; rfl
  have B0 : Bel w (w.alloc (.cells #[.float .f64 nx, .float .f64 ny, .float .f64 fd] 26)) := bl_alloc (bl_refl w) _ _
  go_enter Try.func4, Try.ntmps4
  go_wp2_with (first | (go_at_call 9; refine (awake9 _).mono ?_; rintro e w_1 ⟨rfl, hb⟩; replace z0_0 := keep hb z0_0; replace z0_1 := keep hb z0_1; replace z0_2 := keep hb z0_2; have B1 := bl_trans B0 hb; clear hb) | (go_at_call 19; refine (lent9_any V n xs ys _ (h.bel B1)).mono ?_; rintro e w_2 ⟨gm, cm, rfl, hgm, hL, hb⟩; replace z0_0 := keep hb z0_0; replace z0_1 := keep hb z0_1; replace z0_2 := keep hb z0_2; have B2 := bl_trans B1 hb; have lm := World.block_lt_of_cell? _ _ hL.2.2.2; simp only at lm; clear hb) | (go_at_call 20; refine (polygon_d nx ny fd _ n xs ys w_2 o1 o2 o3 (lent9_is hL h)).mono ?_; rintro e w_3 ⟨va, rfl, hNa, hb⟩; replace z0_0 := keep hb z0_0; replace z0_1 := keep hb z0_1; replace z0_2 := keep hb z0_2; have B3 := bl_trans B2 hb; have wa := new_low hNa; replace hL := hL.bel hb; have s23 := hb.size; clear hb) | (go_at_call 21; refine (rpolygon_d nx ny fd V n xs ys _ o1 o2 o3 (h.bel B3)).mono ?_; rintro e w_4 ⟨vw, rfl, hRw, hb⟩; replace z0_0 := keep hb z0_0; replace z0_1 := keep hb z0_1; replace z0_2 := keep hb z0_2; have B4 := bl_trans B3 hb; have ww := row_low hRw; replace hL := hL.bel hb; replace hNa := hNa.bel hb; have s34 := hb.size; clear hb) | (go_at_call 22; refine (sides_any _ n xs ys w_4 (lent9_is hL h)).mono ?_; rintro e w_5 ⟨vs, rfl, hSs, hb⟩; replace z0_0 := keep hb z0_0; replace z0_1 := keep hb z0_1; replace z0_2 := keep hb z0_2; have B5 := bl_trans B4 hb; have ws := sd_low hSs; replace hL := hL.bel hb; replace hNa := hNa.bel hb; replace hRw := hRw.bel hb; have s45 := hb.size; clear hb) | (go_at_call 23; refine (rsides_any V n xs ys _ (h.bel B5)).mono ?_; rintro e w_6 ⟨vr, rfl, hSr, hb⟩; replace z0_0 := keep hb z0_0; replace z0_1 := keep hb z0_1; replace z0_2 := keep hb z0_2; have B6 := bl_trans B5 hb; replace hL := hL.bel hb; replace hNa := hNa.bel hb; replace hRw := hRw.bel hb; replace hSs := hSs.bel hb; have s56 := hb.size; clear hb) | (go_at_call 14; refine (same_new _ _ _ _ (pgL (nx, ny, fd) xs ys n) _ hNa hRw hlen).mono ?_; rintro e w_7 ⟨rfl, hb⟩; replace z0_0 := keep hb z0_0; replace z0_1 := keep hb z0_1; replace z0_2 := keep hb z0_2; have B7 := bl_trans B6 hb; replace hL := hL.bel hb; replace hNa := hNa.bel hb; replace hRw := hRw.bel hb; replace hSs := hSs.bel hb; replace hSr := hSr.bel hb; have s67 := hb.size; clear hb) | (go_at_call 24; refine (same_sd _ _ _ _ n (chkE xs ys n) (sdP xs ys n) _ hSs hSr).mono ?_; rintro e w_8 ⟨rfl, hb⟩; replace z0_0 := keep hb z0_0; replace z0_1 := keep hb z0_1; replace z0_2 := keep hb z0_2; have B8 := bl_trans B7 hb; replace hL := hL.bel hb; replace hNa := hNa.bel hb; replace hRw := hRw.bel hb; replace hSs := hSs.bel hb; replace hSr := hSr.bel hb; have s78 := hb.size; clear hb) | (go_at_call 15; refine (spoil_new _ _ (pgL (nx, ny, fd) xs ys n) w_8 hNa hlen (by omega) wa).mono ?_; rintro e w_9 ⟨rfl, ga, hga, hga2, hM, hga3⟩))
  have z8 := B8.size
  have z2 := B2.size
  have z1 := B1.size
  have lz := World.block_lt_of_cell? _ _ z0_0
  simp only at lz
  have lz2 : w.heap.size < w_2.heap.size := by
    have := hgm
    omega
  have B9 := hM.bel w B8 (by omega)
  have z9 := hM.size
  have q0 := (hM.cell _ _ lz (by omega)).trans z0_0
  have q1 := (hM.cell _ _ (by omega) (by omega)).trans z0_1
  have q2 := (hM.cell _ _ (by omega) (by omega)).trans z0_2
  replace hL := lent9_mo hL hM (by omega)
  replace hRw : RowS w_3.heap.size w_9 vw (pgL (nx, ny, fd) xs ys n) := by
    rcases hga3 with hlt | hb
    · exact rowS_mo3 hRw hM (fun q o l c _ _ hb => by omega)
    · exact hRw.bel hb
  replace hSs : SdS w_4.heap.size w_9 vs n (chkE xs ys n) (sdP xs ys n) := by
    rcases hga3 with hlt | hb
    · exact sdS_mo hSs hM (fun q hb _ => by omega)
    · exact hSs.bel hb
  replace hSr : SdS w_5.heap.size w_9 vr n (chkE xs ys n) (sdP xs ys n) := by
    rcases hga3 with hlt | hb
    · exact sdS_mo hSr hM (fun q hb _ => by omega)
    · exact hSr.bel hb
  clear hM hga3 hNa z0_0 z0_1 z0_2 B1 B3 B4 B5 B6 B7 B8
  rcases hSs with ⟨hz0, rfl⟩ | ⟨hz1, hn0, hn64, r, c, rfl, hnc, hr, hP⟩
  · refine wp_loop_rounds 1 ?_
    rw [rounds_succ]
    have B10 := B9
    go_wp2_with (first | (go_at_call 20; refine (polygon_d nx ny fd _ n xs ys _ o1 o2 o3 (lent9_is hL h)).mono ?_; rintro e w_11 ⟨vg, rfl, hNg, hb⟩; have B11 := bl_trans B10 hb; replace hL := hL.bel hb; replace hRw := hRw.bel hb; replace hSr := hSr.bel hb; clear hb) | (go_at_call 22; refine (sides_any _ n xs ys w_11 (lent9_is hL h)).mono ?_; rintro e w_12 ⟨vo, rfl, hSo, hb⟩; have B12 := bl_trans B11 hb; replace hL := hL.bel hb; replace hNg := hNg.bel hb; replace hRw := hRw.bel hb; replace hSr := hSr.bel hb; clear hb) | (go_at_call 25; refine (kept9_any gm cm n V xs ys _ hL (h.bel B12)).mono ?_; rintro e w_13 ⟨rfl, hb⟩; have B13 := bl_trans B12 hb; replace hNg := hNg.bel hb; replace hRw := hRw.bel hb; replace hSr := hSr.bel hb; replace hSo := hSo.bel hb; clear hb) | (go_at_call 14; refine (same_new _ _ _ _ (pgL (nx, ny, fd) xs ys n) _ hNg hRw hlen).mono ?_; rintro e w_14 ⟨rfl, hb⟩; have B14 := bl_trans B13 hb; replace hSr := hSr.bel hb; replace hSo := hSo.bel hb; clear hb) | (go_at_call 24; refine (same_sd _ _ _ _ n (chkE xs ys n) (sdP xs ys n) _ hSo hSr).mono ?_; rintro e w_15 ⟨rfl, hb⟩; have B15 := bl_trans B14 hb))
    go_ret
    exact ⟨rfl, B15⟩
  · have lr5 := ws r 0 _ _ rfl
    have FQ0 : ∀ o, w_9.frozen? ⟨r, o, none⟩ = false := fun o => (B9.2 _).trans (fresh_frozen (by omega))
    go_loopw [16] (fun i' wr => ∃ kx : Nat, kx ≤ n ∧ i' = .int .i64 kx ∧ Mo r w_9 wr ∧ (∀ i, i < n → (wr.cell? ⟨r, i * 3 + 2, none⟩).isSome = true)) (fun i' _ => n - (intOf i').toNat)
    case atStart => exact ⟨0, by omega, rfl, Mo.refl _ _, fun i hi => by have := (hP i hi).2.2; rw [Nat.zero_add] at this; rw [this]; rfl⟩
    case round =>
      obtain ⟨kx, hk, rfl, hM, hC⟩ := hrel
      have FQ : ∀ o, wr.frozen? ⟨r, o, none⟩ = false := fun o => (hM.fz _).trans (FQ0 o)
      have zr := hM.size
      by_cases hlt : kx < n
      · have k1 : (kx : Int) < (n : Int) := by omega
        have wk : IntKind.wrap .i64 ((kx : Int) + 1) = (kx : Int) + 1 := by rw [IntKind.wrap_i64]; omega
        obtain ⟨v, hv⟩ := Option.isSome_iff_exists.mp (hC kx hlt)
        go_wp2
        exact ⟨⟨kx + 1, by omega, by go_num, hM.set, fun i hi => some_set (hC i hi)⟩, by simp [intOf]; omega⟩
      · have hkn : n = kx := by omega
        subst hkn
        have B10 := hM.bel w B9 (by omega)
        replace q0 := (hM.cell _ _ (by omega) (by omega)).trans q0
        replace q1 := (hM.cell _ _ (by omega) (by omega)).trans q1
        replace q2 := (hM.cell _ _ (by omega) (by omega)).trans q2
        replace hL := lent9_mo hL hM (by omega)
        replace hRw := rowS_mo3 hRw hM (fun q o l c e h0 _ => by have := ww q o l c e h0; omega)
        replace hSr := sdS_mo hSr hM (fun q hb _ => by omega)
        clear hM hC hP
        go_wp2_with (first | (go_at_call 20; refine (polygon_d nx ny fd _ n xs ys _ o1 o2 o3 (lent9_is hL h)).mono ?_; rintro e w_11 ⟨vg, rfl, hNg, hb⟩; have B11 := bl_trans B10 hb; replace hL := hL.bel hb; replace hRw := hRw.bel hb; replace hSr := hSr.bel hb; clear hb) | (go_at_call 22; refine (sides_any _ n xs ys w_11 (lent9_is hL h)).mono ?_; rintro e w_12 ⟨vo, rfl, hSo, hb⟩; have B12 := bl_trans B11 hb; replace hL := hL.bel hb; replace hNg := hNg.bel hb; replace hRw := hRw.bel hb; replace hSr := hSr.bel hb; clear hb) | (go_at_call 25; refine (kept9_any gm cm n V xs ys _ hL (h.bel B12)).mono ?_; rintro e w_13 ⟨rfl, hb⟩; have B13 := bl_trans B12 hb; replace hNg := hNg.bel hb; replace hRw := hRw.bel hb; replace hSr := hSr.bel hb; replace hSo := hSo.bel hb; clear hb) | (go_at_call 14; refine (same_new _ _ _ _ (pgL (nx, ny, fd) xs ys n) _ hNg hRw hlen).mono ?_; rintro e w_14 ⟨rfl, hb⟩; have B14 := bl_trans B13 hb; replace hSr := hSr.bel hb; replace hSo := hSo.bel hb; clear hb) | (go_at_call 24; refine (same_sd _ _ _ _ n (chkE xs ys n) (sdP xs ys n) _ hSo hSr).mono ?_; rintro e w_15 ⟨rfl, hb⟩; have B15 := bl_trans B14 hb))
        go_ret
        exact ⟨rfl, B15⟩

/-- a row of ways: none, or len of them in cells, with room for cap -/
def IsWays (w : World) (a : Option Addr) (len cap : Nat) : Prop :=
  (a = none ∧ len = 0 ∧ cap = 0) ∨ ∃ (x : Addr) (xs ys : Nat → Nat), a = some x ∧ len ≤ cap ∧ cap ≤ maxLen ∧ len * 16 ≤ 140737488351232 ∧ ∀ i, i < len → w.cell? (x.add (i * 2)) = some (.float .f64 (xs i)) ∧ w.cell? (x.add (i * 2 + 1)) = some (.float .f64 (ys i)) ∧ okK .f64 (xs i) ∧ okK .f64 (ys i)
theorem any_of {w : World} {a : Option Addr} {len cap : Nat} (h : IsWays w a len cap) : ∃ xs ys, AnyS w (.slice a len cap) len xs ys := by
  rcases h with ⟨rfl, rfl, rfl⟩ | ⟨x, xs, ys, rfl, hl, hm, hr, hcell⟩
  · exact ⟨fun _ => 0, fun _ => 0, _, _, rfl, Nat.le_refl _, by decide, by decide, fun i hi => by omega, .inl rfl⟩
  · refine ⟨xs, ys, _, _, rfl, hl, Nat.le_trans hl hm, hr, fun i hi => ⟨(hcell i hi).2.2.1, (hcell i hi).2.2.2⟩, ?_⟩
    rcases Nat.eq_zero_or_pos len with h0 | h0
    · exact .inl h0
    · right
      obtain ⟨b, off, spot⟩ := x
      have hspot : spot = none := by simpa [Addr.add] using World.cell?_spot (hcell 0 h0).1
      subst hspot
      refine ⟨h0, b, off, rfl, fun i hi => ⟨?_, ?_⟩⟩
      · have h := (hcell i hi).1
        rw [add_plain] at h
        exact h
      · have h := (hcell i hi).2.1
        rw [add_plain, ← Nat.add_assoc] at h
        exact h
theorem walk (nx0 ny0 fd0 : Nat) (onx0 : okK .f64 nx0) (ony0 : okK .f64 ny0) (ofd0 : okK .f64 fd0) (a1 : Option Addr) (len1 cap1 : Nat) (w : World) (h1 : IsWays w a1 len1 cap1) :
    Calls Try.prog 4 #[.agg #[.float .f64 nx0, .float .f64 ny0, .float .f64 fd0], .slice a1 len1 cap1] w fun e w' => e = .returned (.bool true) ∧ Below w.heap.size w w' := by
  obtain ⟨xs1, ys1, g1⟩ := any_of h1
  exact (walk_any nx0 ny0 fd0 onx0 ony0 ofd0 _ _ xs1 ys1 w g1).mono fun e w' h => ⟨h.1, h.2.1⟩

set_option maxRecDepth 100000 in
theorem lifted (os : Os) (started : os.Started) (H : Type) (enc : TypeId × Value → H) :
    ReturnsInHanded {} Try.checked os 4 .any (Rows.clipPolygonSpec.pre6 enc Try.prog Try.f4 Rows.clipPolygonRow.domain false) (Rows.clipPolygonSpec.post enc Try.prog Try.f4 false true false false) := by
  refine returnsInHanded_of_change_sized (C := Try.checked) own started (by kernel_rfl) Try.func4
    (ChangeSpec.witness6 (enc := enc) (C := Try.checked) false ⟨#[], #[.agg #[.float .f64 0, .float .f64 0, .float .f64 0], .slice none 0 0], []⟩ 8 (by kernel_rfl) (by kernel_rfl) (by kernel_rfl) (by kernel_rfl)) ?_
  intro W base args ds gs before hval0 hW hcnd hsz0 _
  have hsz : (DataW.weightsEach Try.prog (Try.f4.params.toList ++ Rows.clipPolygonSpec.plain.varTypes Try.prog) (ds ++ gs)).all (· ≤ reachBytes) = true := hsz0
  have hval : ∀ (j : Nat) t v, Try.f4.params[j]? = some t → args[j]? = some v → Value.okWide Try.prog W .any base t v := hval0
  have hW' := hW
  obtain ⟨p, q, hA0, hV, rfl, hfz, hnd⟩ := hW
  have hA : DataW.TrodAll enc Try.prog W 0 (fun _ => true) true Try.f4.params.toList args.toList ds p := hA0
  rw [Try.params4] at hA hval hsz
  obtain ⟨v0, vs0, d0, ds0, p0, q0, hargs, rfl, rfl, h0, r0⟩ := trodAll_cons hA
  obtain ⟨v1, vs1, d1, ds1, p1, q1, rfl, rfl, rfl, h1, r1⟩ := trodAll_cons r0
  obtain ⟨rfl, rfl, rfl⟩ := trodAll_nil r1
  obtain rfl : args = #[v0, v1] := by cases args; simp_all
  obtain ⟨rfl, rfl⟩ := trodVars_none hV
  obtain ⟨nx0, ny0, fd0, rfl, rfl, rfl, wnx0, wny0, wfd0⟩ := open_plane (hval 0 26 v0 rfl rfl) h0
  obtain ⟨a1, len1, cap1, rfl⟩ := okWide_slice Try.underlying31 (hval 1 31 v1 rfl rfl)
  have k1 := h1
  have lt1 : ∀ x ∈ p1, x.block < W.heap.size := by obtain ⟨m, hm⟩ := k1; exact DataW.trod_lt m _ _ _ hm
  have w1 : IsWays W a1 len1 cap1 := by
    obtain ⟨fuel, hf⟩ := h1
    rcases Go.Deep.open_slice_pairs Try.underlying31 Try.underlying24 (by kernel_rfl) rfl rfl (by kernel_rfl) (by kernel_rfl) hf with ⟨hcs, _⟩ | ⟨x, l, c, m, n, V0, V1, D0, D1, P0, P1, hcs, _, hl, hm, hmm, hx, hcell⟩
    · simp [Value.cells] at hcs
      exact .inl hcs
    · simp [Value.cells] at hcs
      obtain ⟨rfl, rfl, rfl⟩ := hcs
      simp only [Prod.mk.injEq] at hx
      obtain ⟨rfl, rfl⟩ := hx
      have hr := sized_slice hsz (j := 1) (t := 31) (e := 24) rfl rfl Try.underlying31
      rw [show Try.prog.bytesOf 24 = 16 by kernel_rfl] at hr
      simp only [List.length_map, List.length_range, reachBytes] at hr
      have hlm : len1 ≤ m := by rw [hmm]; split <;> omega
      have V : ∀ i, ∃ xy : Nat × Nat, i < m → V0 i = .float .f64 xy.1 ∧ V1 i = .float .f64 xy.2 ∧ okK .f64 xy.1 ∧ okK .f64 xy.2 := by
        intro i
        by_cases hi : i < m
        · obtain ⟨_, _, h3, h4⟩ := hcell i hi
          obtain ⟨x, e0, _, wx⟩ := trod_fl Try.underlying22 h3
          obtain ⟨y, e1, _, wy⟩ := trod_fl Try.underlying22 h4
          simp at e0 e1
          exact ⟨(x, y), fun _ => ⟨e0, e1, wf_f64 wx, wf_f64 wy⟩⟩
        · exact ⟨(0, 0), fun h => absurd h hi⟩
      have V' := Classical.axiomOfChoice V
      obtain ⟨f, hf'⟩ := V'
      refine .inr ⟨x, fun i => (f i).1, fun i => (f i).2, rfl, hl, hm, by omega, fun i hi => ?_⟩
      obtain ⟨e0, e1, o0, o1⟩ := hf' i (by omega)
      obtain ⟨c0, c1, _, _⟩ := hcell i (by omega)
      rw [e0] at c0
      rw [e1] at c1
      exact ⟨c0, c1, o0, o1⟩
  clear hA0 hval0 hsz0
  refine (walk nx0 ny0 fd0 (wf_f64 wnx0) (wf_f64 wny0) (wf_f64 wfd0) a1 len1 cap1 W w1).mono fun e W' ⟨he, bel0⟩ => ?_
  have bel := bel0
  subst he
  exact ⟨_, rfl, _, _, _, [], _, [], hW', trodAll_mk1 (shut_bool Try.underlying4 _), (trodAll_cons_mk (shut_plane wnx0 wny0 wfd0) (trodAll_cons_mk (Below.trod laidOut (by kernel_rfl) (of_decide_eq_true (by kernel_rfl)) k1 bel lt1) trodAll_mk0)), rfl, bel.frame _, fun h => by cases h⟩

theorem over : Rows.clipPolygonRow.holds Try.pinned (OpenSpec.ofChange Rows.clipPolygonSpec) :=
  OpenClaim.holds_of_wide 4 Try.f4 rfl rfl rfl rfl rfl rfl rfl ⟨rfl, rfl, rfl, rfl, rfl⟩ rfl rfl rfl rfl rfl (by kernel_rfl) Try.func4 (by kernel_rfl)
    (of_decide_eq_true (by kernel_rfl)) (by unfold Func.isWrapper; first | (rw [if_pos (by decide +kernel)]; kernel_rfl) | (rw [if_neg (by decide +kernel)]; exact ⟨rfl, rfl⟩))
    (fun os started H enc _ => lifted os started H enc)

theorem proved : Rows.ClipPolygonSaid :=
  over
#print axioms proved
end Go.Proofs.Ytmgoancijepeoaa.clipPolygon
