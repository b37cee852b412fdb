/-
  'tumblelaw09.ClipBoth' is true of all planes and rows of points.
-/
import Derived.Test.YtmgoancijepeoaaRows
import Derived.Test.YtmgoancijepeoaaDg
import Derived.WalkKit
import Derived.ProofKit
import Derived.OpenShut
import Derived.WalkLawsBesides
import Derived.WalkSpells
import Derived.Lib.SmallJoins
import Derived.Laws.Cover2
import Derived.Laws.AppendOwn
import Derived.Laws.OwnMore
import Derived.Laws.AppendOwnNone
import Derived.Deep.RegionHeld3
import Derived.Deep.RegionWith
import Derived.Deep.SlicePairs
import Derived.SizedLaws
import Derived.Below
import Derived.Laws.StructEq
namespace Go.Proofs.Ytmgoancijepeoaa.clipBoth
open Go.ChangeShapes Go.WideShapes Go.ChangeAt Go.RowKit Go.Joins
set_option linter.unusedVariables false
set_option linter.unusedSimpArgs false

theorem own : ownKnob Try.prog.godebug = none := by kernel_rfl
theorem laidOut : laidOutB Try.prog = true := by kernel_rfl
theorem wf_f64 {x : Nat} (h : (Lit.float .f64 x).wf = true) : okK .f64 x := by
  rw [okK64]; simpa [Lit.wf] using h
theorem trod_fl {H : Type} {enc : TypeId × Value → H} {P : Program} {w : World} {base fuel : Nat} {spare : Nat → Bool} {held : Bool} {t : TypeId} {cs : List Value} {x : DataW H × List MemPlace} {k : FloatKind} (ht : P.underlying t = some (.float k)) (h : DataW.trod enc P w base spare held fuel t cs = some x) : ∃ z, cs = [.float k z] ∧ x = (.lit (.float k z), []) ∧ (Lit.float k z).wf = true := by
  cases fuel with
  | zero => simp [DataW.trod] at h
  | succ n =>
    unfold DataW.trod at h
    rw [ht] at h
    split at h <;> simp_all




theorem btL_len {us vs xs ys : Nat → Nat} {n m : Nat} (oa : Oks us vs n) (ob : Oks xs ys m) : (btL us vs n xs ys m).length ≤ 12000000000000 := by
  unfold btL
  split
  · rename_i h0
    obtain ⟨h1, h2⟩ : chkE us vs n = 0 ∧ chkE xs ys m = 0 := by
      unfold btE at h0
      split at h0
      · rename_i hp; exact ⟨hp, h0⟩
      · rename_i hp; exact absurd h0 hp
    obtain ⟨_, _, h64, _⟩ := chk_ok oa h1
    obtain ⟨_, _, h65, _⟩ := chk_ok ob h2
    exact both_last (by rw [lst_len]; exact h64) h65
  · exact Nat.zero_le _
theorem same_newB (v v' : Value) (b1 b2 : Nat) (N : List Pt) (w : World) (h : NewS b1 w v N) (h' : RowS b2 w v' N) (hl : N.length ≤ 12000000000000) : Calls Try.prog 14 #[v, v'] w fun e w' => e = .returned (.bool true) ∧ Bel w w' := by
  obtain ⟨a, c, rfl, hc, h2⟩ := h'
  rcases h with ⟨rfl, rfl⟩ | ⟨h0, g, rfl, hg, hS, _⟩
  · exact same_nil none a 0 c w
  · rcases h2 with h2 | ⟨q, o, rfl, _, hS2⟩
    · omega
    · exact same_eq g 0 _ q o c _ _ _ w hS hS2 (by unfold maxLen; omega) (Nat.le_refl _) hc
theorem spoil_newB (v : Value) (base : Nat) (N : List Pt) (w : World) (h : NewS base w v N) (hl : N.length ≤ 12000000000000) (hbase : base ≤ w.heap.size) : Calls Try.prog 15 #[v] w fun e w' => e = .returned (.tuple #[]) ∧ ∃ g, base ≤ g ∧ Mo g w w' := by
  rcases h with ⟨rfl, rfl⟩ | ⟨h0, g, rfl, hg, hS, hf⟩
  · exact (spoil_nil w).mono fun e w' ⟨he, hb⟩ => ⟨he, w.heap.size, hbase, (Mo.refl _ _).on hb⟩
  · exact (spoil_full g _ _ _ w hS h0 (by omega) hf).mono fun e w' ⟨he, hm⟩ => ⟨he, g, hg, hm⟩
theorem lent9_moB {g q c n : Nat} {w w' : World} {xs ys : Nat → Nat} (h : Lent9 w q c n xs ys) (m : Mo g w w') (hne : q ≠ g) : Lent9 w' q c n xs ys :=
  ⟨h.1, h.2.1, m.sl h.2.2.1 hne, (m.cell _ _ (World.block_lt_of_cell? _ _ h.2.2.2) hne).trans h.2.2.2⟩

set_option maxRecDepth 100000 in
set_option maxHeartbeats 4000000 in
theorem walk_any (VA : Value) (n : Nat) (us vs : Nat → Nat) (VB : Value) (m : Nat) (xs ys : Nat → Nat) (w : World) (hA : AnyS w VA n us vs) (hB : AnyS w VB m xs ys) : Calls Try.prog 5 #[VA, VB] w fun e w' => e = .returned (.bool true) ∧ Bel w w' := by
  have hlen : (btL us vs n xs ys m).length ≤ 12000000000000 := by
    obtain ⟨_, _, _, _, _, _, ho, _⟩ := hA
    obtain ⟨_, _, _, _, _, _, ho2, _⟩ := hB
    exact btL_len ho ho2
  go_enter Try.func5, Try.ntmps5
  go_wp2_with (first | (go_at_call 9; refine (awake9 _).mono ?_; rintro e w_1 ⟨rfl, B1⟩) | (have zz := hL1; clear zz; go_at_call 19; refine (lent9_any VB m xs ys w_2 (hB.bel B2)).mono ?_; rintro e w_3 ⟨g2, c2, rfl, hg2, hL2, hb⟩; have B3 := bl_trans B2 hb; replace hL1 := hL1.bel hb; have lm2 := World.block_lt_of_cell? _ _ hL2.2.2.2; simp only at lm2; have s23 := hb.size; clear hb) | (go_at_call 19; refine (lent9_any VA n us vs w_1 (hA.bel B1)).mono ?_; rintro e w_2 ⟨g1, c1, rfl, hg1, hL1, hb⟩; have B2 := bl_trans B1 hb; have lm1 := World.block_lt_of_cell? _ _ hL1.2.2.2; simp only at lm1; clear hb) | (go_at_call 26; refine (both_any _ _ n m us vs xs ys w_3 (lent9_is hL1 hA) (lent9_is hL2 hB)).mono ?_; rintro e w_4 ⟨vl, rfl, hN, hb⟩; have B4 := bl_trans B3 hb; replace hL1 := hL1.bel hb; replace hL2 := hL2.bel hb; have s34 := hb.size; clear hb) | (go_at_call 27; refine (rboth_any VA VB n m us vs xs ys w_4 (hA.bel B4) (hB.bel B4)).mono ?_; rintro e w_5 ⟨vw, rfl, hW, hb⟩; have B5 := bl_trans B4 hb; replace hL1 := hL1.bel hb; replace hL2 := hL2.bel hb; replace hN := hN.bel hb; have s45 := hb.size; clear hb) | (go_at_call 14; refine (same_newB _ _ _ _ (btL us vs n xs ys m) _ hN hW hlen).mono ?_; rintro e w_6 ⟨rfl, hb⟩; have B6 := bl_trans B5 hb; replace hL1 := hL1.bel hb; replace hL2 := hL2.bel hb; replace hN := hN.bel hb; have s56 := hb.size; clear hb) | (go_at_call 15; refine (spoil_newB _ _ (btL us vs n xs ys m) w_6 hN hlen (by omega)).mono ?_; rintro e w_7 ⟨rfl, gl, hgl, hM⟩; have z1 := B1.size; have z3 := B3.size; have B7 := hM.bel w B6 (by omega); replace hL1 := lent9_moB hL1 hM (by omega); replace hL2 := lent9_moB hL2 hM (by omega); clear hM hN) | (have zz := B8; clear zz; go_at_call 25; refine (kept9_any g2 c2 m VB xs ys _ hL2 (hB.bel B8)).mono ?_; rintro e w_9 ⟨rfl, hb⟩; have B9 := bl_trans B8 hb; clear hb) | (go_at_call 25; refine (kept9_any g1 c1 n VA us vs _ hL1 (hA.bel B7)).mono ?_; rintro e w_8 ⟨rfl, hb⟩; have B8 := bl_trans B7 hb; replace hL1 := hL1.bel hb; replace hL2 := hL2.bel hb; clear hb))
  go_ret
  exact ⟨rfl, B9⟩

/-- a row of ways: none, or len of them in cells, with room for cap -/
def IsWays (w : World) (a : Option Addr) (len cap : Nat) : Prop :=
  (a = none ∧ len = 0 ∧ cap = 0) ∨ ∃ (x : Addr) (xs ys : Nat → Nat), a = some x ∧ len ≤ cap ∧ cap ≤ maxLen ∧ len * 16 ≤ 140737488351232 ∧ ∀ i, i < len → w.cell? (x.add (i * 2)) = some (.float .f64 (xs i)) ∧ w.cell? (x.add (i * 2 + 1)) = some (.float .f64 (ys i)) ∧ okK .f64 (xs i) ∧ okK .f64 (ys i)
theorem any_of {w : World} {a : Option Addr} {len cap : Nat} (h : IsWays w a len cap) : ∃ xs ys, AnyS w (.slice a len cap) len xs ys := by
  rcases h with ⟨rfl, rfl, rfl⟩ | ⟨x, xs, ys, rfl, hl, hm, hr, hcell⟩
  · exact ⟨fun _ => 0, fun _ => 0, _, _, rfl, Nat.le_refl _, by decide, by decide, fun i hi => by omega, .inl rfl⟩
  · refine ⟨xs, ys, _, _, rfl, hl, Nat.le_trans hl hm, hr, fun i hi => ⟨(hcell i hi).2.2.1, (hcell i hi).2.2.2⟩, ?_⟩
    rcases Nat.eq_zero_or_pos len with h0 | h0
    · exact .inl h0
    · right
      obtain ⟨b, off, spot⟩ := x
      have hspot : spot = none := by simpa [Addr.add] using World.cell?_spot (hcell 0 h0).1
      subst hspot
      refine ⟨h0, b, off, rfl, fun i hi => ⟨?_, ?_⟩⟩
      · have h := (hcell i hi).1
        rw [add_plain] at h
        exact h
      · have h := (hcell i hi).2.1
        rw [add_plain, ← Nat.add_assoc] at h
        exact h
theorem walk (a0 : Option Addr) (len0 cap0 : Nat) (a1 : Option Addr) (len1 cap1 : Nat) (w : World) (h0 : IsWays w a0 len0 cap0) (h1 : IsWays w a1 len1 cap1) :
    Calls Try.prog 5 #[.slice a0 len0 cap0, .slice a1 len1 cap1] w fun e w' => e = .returned (.bool true) ∧ Below w.heap.size w w' := by
  obtain ⟨xs0, ys0, g0⟩ := any_of h0
  obtain ⟨xs1, ys1, g1⟩ := any_of h1
  exact (walk_any _ _ xs0 ys0 _ _ xs1 ys1 w g0 g1).mono fun e w' h => ⟨h.1, h.2.1⟩

set_option maxRecDepth 100000 in
theorem lifted (os : Os) (started : os.Started) (H : Type) (enc : TypeId × Value → H) :
    ReturnsInHanded {} Try.checked os 5 .any (Rows.clipBothSpec.pre6 enc Try.prog Try.f5 Rows.clipBothRow.domain false) (Rows.clipBothSpec.post enc Try.prog Try.f5 false true false false) := by
  refine returnsInHanded_of_change_sized (C := Try.checked) own started (by kernel_rfl) Try.func5
    (ChangeSpec.witness6 (enc := enc) (C := Try.checked) false ⟨#[], #[.slice none 0 0, .slice none 0 0], []⟩ 8 (by kernel_rfl) (by kernel_rfl) (by kernel_rfl) (by kernel_rfl)) ?_
  intro W base args ds gs before hval0 hW hcnd hsz0 _
  have hsz : (DataW.weightsEach Try.prog (Try.f5.params.toList ++ Rows.clipBothSpec.plain.varTypes Try.prog) (ds ++ gs)).all (· ≤ reachBytes) = true := hsz0
  have hval : ∀ (j : Nat) t v, Try.f5.params[j]? = some t → args[j]? = some v → Value.okWide Try.prog W .any base t v := hval0
  have hW' := hW
  obtain ⟨p, q, hA0, hV, rfl, hfz, hnd⟩ := hW
  have hA : DataW.TrodAll enc Try.prog W 0 (fun _ => true) true Try.f5.params.toList args.toList ds p := hA0
  rw [Try.params5] at hA hval hsz
  obtain ⟨v0, vs0, d0, ds0, p0, q0, hargs, rfl, rfl, h0, r0⟩ := trodAll_cons hA
  obtain ⟨v1, vs1, d1, ds1, p1, q1, rfl, rfl, rfl, h1, r1⟩ := trodAll_cons r0
  obtain ⟨rfl, rfl, rfl⟩ := trodAll_nil r1
  obtain rfl : args = #[v0, v1] := by cases args; simp_all
  obtain ⟨rfl, rfl⟩ := trodVars_none hV
  obtain ⟨a0, len0, cap0, rfl⟩ := okWide_slice Try.underlying31 (hval 0 31 v0 rfl rfl)
  obtain ⟨a1, len1, cap1, rfl⟩ := okWide_slice Try.underlying31 (hval 1 31 v1 rfl rfl)
  have k0 := h0
  have lt0 : ∀ x ∈ p0, x.block < W.heap.size := by obtain ⟨m, hm⟩ := k0; exact DataW.trod_lt m _ _ _ hm
  have w0 : IsWays W a0 len0 cap0 := by
    obtain ⟨fuel, hf⟩ := h0
    rcases Go.Deep.open_slice_pairs Try.underlying31 Try.underlying24 (by kernel_rfl) rfl rfl (by kernel_rfl) (by kernel_rfl) hf with ⟨hcs, _⟩ | ⟨x, l, c, m, n, V0, V1, D0, D1, P0, P1, hcs, _, hl, hm, hmm, hx, hcell⟩
    · simp [Value.cells] at hcs
      exact .inl hcs
    · simp [Value.cells] at hcs
      obtain ⟨rfl, rfl, rfl⟩ := hcs
      simp only [Prod.mk.injEq] at hx
      obtain ⟨rfl, rfl⟩ := hx
      have hr := sized_slice hsz (j := 0) (t := 31) (e := 24) rfl rfl Try.underlying31
      rw [show Try.prog.bytesOf 24 = 16 by kernel_rfl] at hr
      simp only [List.length_map, List.length_range, reachBytes] at hr
      have hlm : len0 ≤ m := by rw [hmm]; split <;> omega
      have V : ∀ i, ∃ xy : Nat × Nat, i < m → V0 i = .float .f64 xy.1 ∧ V1 i = .float .f64 xy.2 ∧ okK .f64 xy.1 ∧ okK .f64 xy.2 := by
        intro i
        by_cases hi : i < m
        · obtain ⟨_, _, h3, h4⟩ := hcell i hi
          obtain ⟨x, e0, _, wx⟩ := trod_fl Try.underlying22 h3
          obtain ⟨y, e1, _, wy⟩ := trod_fl Try.underlying22 h4
          simp at e0 e1
          exact ⟨(x, y), fun _ => ⟨e0, e1, wf_f64 wx, wf_f64 wy⟩⟩
        · exact ⟨(0, 0), fun h => absurd h hi⟩
      have V' := Classical.axiomOfChoice V
      obtain ⟨f, hf'⟩ := V'
      refine .inr ⟨x, fun i => (f i).1, fun i => (f i).2, rfl, hl, hm, by omega, fun i hi => ?_⟩
      obtain ⟨e0, e1, o0, o1⟩ := hf' i (by omega)
      obtain ⟨c0, c1, _, _⟩ := hcell i (by omega)
      rw [e0] at c0
      rw [e1] at c1
      exact ⟨c0, c1, o0, o1⟩
  have k1 := h1
  have lt1 : ∀ x ∈ p1, x.block < W.heap.size := by obtain ⟨m, hm⟩ := k1; exact DataW.trod_lt m _ _ _ hm
  have w1 : IsWays W a1 len1 cap1 := by
    obtain ⟨fuel, hf⟩ := h1
    rcases Go.Deep.open_slice_pairs Try.underlying31 Try.underlying24 (by kernel_rfl) rfl rfl (by kernel_rfl) (by kernel_rfl) hf with ⟨hcs, _⟩ | ⟨x, l, c, m, n, V0, V1, D0, D1, P0, P1, hcs, _, hl, hm, hmm, hx, hcell⟩
    · simp [Value.cells] at hcs
      exact .inl hcs
    · simp [Value.cells] at hcs
      obtain ⟨rfl, rfl, rfl⟩ := hcs
      simp only [Prod.mk.injEq] at hx
      obtain ⟨rfl, rfl⟩ := hx
      have hr := sized_slice hsz (j := 1) (t := 31) (e := 24) rfl rfl Try.underlying31
      rw [show Try.prog.bytesOf 24 = 16 by kernel_rfl] at hr
      simp only [List.length_map, List.length_range, reachBytes] at hr
      have hlm : len1 ≤ m := by rw [hmm]; split <;> omega
      have V : ∀ i, ∃ xy : Nat × Nat, i < m → V0 i = .float .f64 xy.1 ∧ V1 i = .float .f64 xy.2 ∧ okK .f64 xy.1 ∧ okK .f64 xy.2 := by
        intro i
        by_cases hi : i < m
        · obtain ⟨_, _, h3, h4⟩ := hcell i hi
          obtain ⟨x, e0, _, wx⟩ := trod_fl Try.underlying22 h3
          obtain ⟨y, e1, _, wy⟩ := trod_fl Try.underlying22 h4
          simp at e0 e1
          exact ⟨(x, y), fun _ => ⟨e0, e1, wf_f64 wx, wf_f64 wy⟩⟩
        · exact ⟨(0, 0), fun h => absurd h hi⟩
      have V' := Classical.axiomOfChoice V
      obtain ⟨f, hf'⟩ := V'
      refine .inr ⟨x, fun i => (f i).1, fun i => (f i).2, rfl, hl, hm, by omega, fun i hi => ?_⟩
      obtain ⟨e0, e1, o0, o1⟩ := hf' i (by omega)
      obtain ⟨c0, c1, _, _⟩ := hcell i (by omega)
      rw [e0] at c0
      rw [e1] at c1
      exact ⟨c0, c1, o0, o1⟩
  clear hA0 hval0 hsz0
  refine (walk a0 len0 cap0 a1 len1 cap1 W w0 w1).mono fun e W' ⟨he, bel0⟩ => ?_
  have bel := bel0
  subst he
  exact ⟨_, rfl, _, _, _, [], _, [], hW', trodAll_mk1 (shut_bool Try.underlying4 _), (trodAll_cons_mk (Below.trod laidOut (by kernel_rfl) (of_decide_eq_true (by kernel_rfl)) k0 bel lt0) (trodAll_cons_mk (Below.trod laidOut (by kernel_rfl) (of_decide_eq_true (by kernel_rfl)) k1 bel lt1) trodAll_mk0)), rfl, bel.frame _, fun h => by cases h⟩

theorem over : Rows.clipBothRow.holds Try.pinned (OpenSpec.ofChange Rows.clipBothSpec) :=
  OpenClaim.holds_of_wide 5 Try.f5 rfl rfl rfl rfl rfl rfl rfl ⟨rfl, rfl, rfl, rfl, rfl⟩ rfl rfl rfl rfl rfl (by kernel_rfl) Try.func5 (by kernel_rfl)
    (of_decide_eq_true (by kernel_rfl)) (by unfold Func.isWrapper; first | (rw [if_pos (by decide +kernel)]; kernel_rfl) | (rw [if_neg (by decide +kernel)]; exact ⟨rfl, rfl⟩))
    (fun os started H enc _ => lifted os started H enc)

theorem proved : Rows.ClipBothSaid :=
  over
#print axioms proved
end Go.Proofs.Ytmgoancijepeoaa.clipBoth
