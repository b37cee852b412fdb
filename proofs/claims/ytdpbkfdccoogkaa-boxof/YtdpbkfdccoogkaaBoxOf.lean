/-
  P5.2: 'tumblelaw05.BoxOf' is true of every list of ways.
-/
import Derived.Test.YtdpbkfdccoogkaaRows
import Derived.Test.YtdpbkfdccoogkaaBof
import Derived.Test.YtdpbkfdccoogkaaBalive
import Derived.WalkKit
import Derived.ProofKit
import Derived.OpenShut
import Derived.WalkLawsBesides
import Derived.WalkSpells
import Derived.Lib.SmallJoins
import Derived.Laws.Cover2
import Derived.Laws.AppendOwn
import Derived.Laws.OwnMore
import Derived.Laws.AppendOwnNone
import Derived.Deep.RegionHeld3
import Derived.Deep.RegionWith
import Derived.Deep.SlicePairs
import Derived.SizedLaws
import Derived.Below
import Derived.Laws.StructEq
namespace Go.Proofs.Ytdpbkfdccoogkaa.boxOf
open Go.ChangeShapes Go.WideShapes Go.ChangeAt Go.RowKit Go.Joins
set_option linter.unusedVariables false
set_option linter.unusedSimpArgs false

theorem own : ownKnob Try.prog.godebug = none := by kernel_rfl
theorem laidOut : laidOutB Try.prog = true := by kernel_rfl
theorem wf_f64 {x : Nat} (h : (Lit.float .f64 x).wf = true) : okK .f64 x := by
  rw [okK64]; simpa [Lit.wf] using h
theorem trod_fl {H : Type} {enc : TypeId × Value → H} {P : Program} {w : World} {base fuel : Nat} {spare : Nat → Bool} {held : Bool} {t : TypeId} {cs : List Value} {x : DataW H × List MemPlace} {k : FloatKind} (ht : P.underlying t = some (.float k)) (h : DataW.trod enc P w base spare held fuel t cs = some x) : ∃ z, cs = [.float k z] ∧ x = (.lit (.float k z), []) ∧ (Lit.float k z).wf = true := by
  cases fuel with
  | zero => simp [DataW.trod] at h
  | succ n =>
    unfold DataW.trod at h
    rw [ht] at h
    split at h <;> simp_all

theorem info_vec : (Try.prog.info? 24).map (fun i => (i.zero, i.size, i.bytes)) = some (some (.agg #[.float .f64 0, .float .f64 0]), 2, 16) := by kernel_rfl
/-- the cells of the first k of a row of ways -/
def prRow (xs ys : Nat → Nat) (k : Nat) : List Value := (List.range (k * 2)).map fun j => .float .f64 (if j % 2 = 0 then xs (j / 2) else ys (j / 2))
theorem prRow_length (xs ys : Nat → Nat) (k : Nat) : (prRow xs ys k).length = k * 2 := by simp [prRow]
theorem prRow_get (xs ys : Nat → Nat) (k j : Nat) (h : j < k * 2) : (prRow xs ys k)[j]? = some (.float .f64 (if j % 2 = 0 then xs (j / 2) else ys (j / 2))) := by simp [prRow, h]
theorem lt_of_cell {w : World} {a : Addr} {v : Value} (h : w.cell? a = some v) : a.block < w.heap.size := by
  unfold World.cell? at h
  rcases Nat.lt_or_ge a.block w.heap.size with h1 | h1
  · exact h1
  · rw [Array.getElem?_eq_none h1] at h; simp at h
theorem rSame_same (x y : Nat) (w : World) : Calls Try.prog 34 #[.agg #[.float .f64 x, .float .f64 y], .agg #[.float .f64 x, .float .f64 y]] w fun e w' => e = .returned (.bool true) ∧ Bel w w' := by
  have h := rSame_any x y x y w
  rw [smK_self, smK_self] at h
  exact h
set_option maxRecDepth 1000000 in
set_option maxHeartbeats 8000000 in
theorem walk_some (b off n cap : Nat) (xs ys : Nat → Nat) (w : World) (hreach : (n + 1) * 16 ≤ 140737488351232) (hcap : n + 1 ≤ cap) (hb0 : b < w.heap.size) (ho : ∀ j, j < n + 1 → okK .f64 (xs j)) (hp : ∀ j, j < n + 1 → okK .f64 (ys j))
    (hc : ∀ i, i < n + 1 → w.cell? ⟨b, off + i * 2, none⟩ = some (.float .f64 (xs i)) ∧ w.cell? ⟨b, off + i * 2 + 1, none⟩ = some (.float .f64 (ys i))) :
    Calls Try.prog 4 #[.slice (some ⟨b, off, none⟩) (n + 1) cap] w fun e w' => e = .returned (.bool true) ∧ Below w.heap.size w w' := by
  obtain ⟨i0, hi, hz0, hz1, hz2⟩ := info_parts info_vec
  have al := World.cell?_alloc_some
  go_enter Try.func4, Try.ntmps4
  go_wp2_with (first | (go_at_call 9; refine (balive_any _).mono ?_; rintro e w1 ⟨rfl, hb1⟩; have own0 := World.ownsRow_lit (size := 2) (e := 24) (base := w1.heap.size) w1 #[] 0 (Nat.le_refl _) (by decide) rfl) | (at_builtin; refine wpList_append_own _ rfl _ _ 40 rfl w1.heap.size 24 i0 (.agg #[.float .f64 0, .float .f64 0]) 2 16 Try.underlying40 hi hz0 hz1 hz2 rfl (by decide) _ _ _ rfl own0 ⟨b, off, none⟩ (n + 1) cap (prRow xs ys (n + 1)) rfl (prRow_length _ _ _) ?c1 ?c2 ?c3 ?c4 ?c5 ?_) | go_in)
  case c1 =>
    intro j u hj
    have hjl : j < (n + 1) * 2 := by
      rcases Nat.lt_or_ge j ((n + 1) * 2) with h | h
      · exact h
      · rw [List.getElem?_eq_none (by rw [prRow_length]; exact h)] at hj; cases hj
    rw [prRow_get _ _ _ _ hjl] at hj
    injection hj with hj
    subst hj
    have hx := hc (j / 2) (by omega)
    have e1 := keep hb1 hx.1
    have e2 := keep hb1 hx.2
    rcases Nat.mod_two_eq_zero_or_one j with h | h
    · rw [if_pos h]
      have : j / 2 * 2 = j := by omega
      rw [this] at e1
      exact up_alloc (by rw [add_plain]; exact e1)
    · rw [if_neg (by omega)]
      have : j / 2 * 2 + 1 = j := by omega
      rw [Nat.add_assoc, this] at e2
      exact up_alloc (by rw [add_plain]; exact e2)
  case c2 => intro u hu; simp [prRow] at hu; obtain ⟨a, _, rfl⟩ := hu; rfl
  case c3 => unfold maxLen; omega
  case c4 => omega
  case c5 => simp
  intro v2 w2 own2 hgrow2 _
  have bel2 : Below w1.heap.size w1 w2 := ((Below.refl w1.heap.size w1).alloc (Nat.le_refl _) _).grown hgrow2 (by simp) fun j hj => (own0.lt j hj).1
  have hsz2 := bel2.size
  clear hgrow2 own0
  go_wp2_with (first | (at_builtin; refine wpList_append_own _ rfl _ _ 40 rfl w1.heap.size 24 i0 (.agg #[.float .f64 0, .float .f64 0]) 2 16 Try.underlying40 hi hz0 hz1 hz2 rfl (by decide) _ _ _ rfl (own2.alloc _) ⟨w2.heap.size, 0, none⟩ 2 2 [.float .f64 4635118810238550016, .float .f64 0, .float .f64 0, .float .f64 4635189178982727680] rfl rfl ?c1 ?c2 ?c3 ?c4 ?c5 ?_) | go_in)
  case c1 =>
    intro j u hj
    match j, hj with
    | 0, hj => simp at hj; subst hj; simp [Addr.add]
    | 1, hj => simp at hj; subst hj; simp [Addr.add]
    | 2, hj => simp at hj; subst hj; simp [Addr.add]
    | 3, hj => simp at hj; subst hj; simp [Addr.add]
  case c2 => intro u hu; simp at hu; rcases hu with rfl | rfl | rfl | rfl <;> rfl
  case c3 => unfold maxLen; omega
  case c4 => omega
  case c5 => simp; omega
  intro v3 w3 own3 hgrow3 _
  have bel3 : Below w1.heap.size w1 w3 := (bel2.alloc hsz2 _).grown hgrow3 (by simp; omega) fun j hj => (own2.lt j hj).1
  have bel : Below w.heap.size w w3 := hb1.1.trans (bel3.mono hb1.size)
  obtain ⟨g, cap3, hv3, hcap3, hrow3⟩ : ∃ g cap3, v3 = .slice (some ⟨g, 0, none⟩) (n + 3) cap3 ∧ n + 3 ≤ cap3 ∧ ∀ j, j < (n + 3) * 2 → w3.cell? ⟨g, j, none⟩ = (prRow xs ys (n + 1) ++ [.float .f64 4635118810238550016, .float .f64 0, .float .f64 0, .float .f64 4635189178982727680])[j]? := by
    have hh := own3
    rcases own3.2 with ⟨_, h⟩ | ⟨g, cap3, cur, hv, _, _, hle, _⟩
    · omega
    · subst hv
      refine ⟨g, cap3, by first | rfl | rw [show 0 + (n + 1) + 2 = n + 3 by omega] | rw [show n + 1 + 2 = n + 3 by omega], by omega, fun j hj => ?_⟩
      have := hh.cellAt j (by omega)
      simpa using this
  have hr3 : ∀ i, i < n + 1 → w3.cell? ⟨g, 0 + i * 2, none⟩ = some (.float .f64 (xs i)) ∧ w3.cell? ⟨g, 0 + i * 2 + 1, none⟩ = some (.float .f64 (ys i)) := fun i hi => by
    constructor
    · rw [Nat.zero_add, hrow3 (i * 2) (by omega), List.getElem?_append_left (by rw [prRow_length]; omega), prRow_get _ _ _ _ (by omega), if_pos (by omega), show i * 2 / 2 = i by omega]
    · rw [Nat.zero_add, hrow3 (i * 2 + 1) (by omega), List.getElem?_append_left (by rw [prRow_length]; omega), prRow_get _ _ _ _ (by omega), if_neg (by omega), show (i * 2 + 1) / 2 = i by omega]
  have h7 : ∀ k, k < 4 → w3.cell? ⟨g, (n + 1) * 2 + k, none⟩ = [Value.float .f64 4635118810238550016, .float .f64 0, .float .f64 0, .float .f64 4635189178982727680][k]? := fun k hk => by
    rw [hrow3 _ (by omega), List.getElem?_append_right (by rw [prRow_length]; omega), prRow_length, Nat.add_sub_cancel_left]
  have hl3 : ∀ i, i < n + 1 → w3.cell? ⟨b, off + i * 2, none⟩ = some (.float .f64 (xs i)) ∧ w3.cell? ⟨b, off + i * 2 + 1, none⟩ = some (.float .f64 (ys i)) := fun i hi =>
    ⟨(bel.cell (p := ⟨b, off + i * 2, none⟩) hb0).trans (hc i hi).1, (bel.cell (p := ⟨b, off + i * 2 + 1, none⟩) hb0).trans (hc i hi).2⟩
  have hg3 : g < w3.heap.size := lt_of_cell (hr3 0 (by omega)).1
  have hb3 : b < w3.heap.size := Nat.lt_of_lt_of_le hb0 bel.size
  have hml : n + 1 ≤ maxLen := by unfold maxLen; omega
  clear hrow3 own2 own3 hgrow3 bel2 bel3 hc hb1
  rw [hv3]
  go_wp2_with fail
  refine (xOf_some g 0 n cap3 xs ys _ hml (by omega) hg3 hr3).mono ?_
  rintro e w4 ⟨rfl, hb4⟩
  have hl4 : ∀ i, i < n + 1 → (w4.alloc (Obj.cells #[.float .f64 (lowK xs n), .float .f64 (lowK ys n), .float .f64 (highK xs n), .float .f64 (highK ys n)] 26)).cell? ⟨b, off + i * 2, none⟩ = some (.float .f64 (xs i)) ∧ (w4.alloc (Obj.cells #[.float .f64 (lowK xs n), .float .f64 (lowK ys n), .float .f64 (highK xs n), .float .f64 (highK ys n)] 26)).cell? ⟨b, off + i * 2 + 1, none⟩ = some (.float .f64 (ys i)) := fun i hi => ⟨up_alloc (keep hb4 (hl3 i hi).1), up_alloc (keep hb4 (hl3 i hi).2)⟩
  have hb4b : b < (w4.alloc (Obj.cells #[.float .f64 (lowK xs n), .float .f64 (lowK ys n), .float .f64 (highK xs n), .float .f64 (highK ys n)] 26)).heap.size := lt_of_cell (hl4 0 (by omega)).1
  go_wp2_with fail
  refine (rOf_some b off n cap xs ys _ hml hcap hb4b hl4 ho hp).mono ?_
  rintro e w5 ⟨rfl, hb5⟩
  have k0 := keep hb5 (a := ⟨w4.heap.size, 0, none⟩) (v := .float .f64 (lowK xs n)) (by go_keep)
  have k1 := keep hb5 (a := ⟨w4.heap.size, 1, none⟩) (v := .float .f64 (lowK ys n)) (by go_keep)
  have k2 := keep hb5 (a := ⟨w4.heap.size, 2, none⟩) (v := .float .f64 (highK xs n)) (by go_keep)
  have k3 := keep hb5 (a := ⟨w4.heap.size, 3, none⟩) (v := .float .f64 (highK ys n)) (by go_keep)
  obtain ⟨W0, hW0⟩ : ∃ W, W = w5.alloc (Obj.cells #[.float .f64 (lowK xs n), .float .f64 (lowK ys n), .float .f64 (highK xs n), .float .f64 (highK ys n)] 26) := ⟨_, rfl⟩
  have B35 : Bel w3 W0 := by rw [hW0]; exact bl_alloc (bl_trans (bl_alloc hb4 _ _) hb5) _ _
  have bel0 : Below w.heap.size w W0 := bel.trans (B35.1.mono bel.size)
  have K0 : W0.cell? ⟨w4.heap.size, 0, none⟩ = some (.float .f64 (lowK xs n)) := by rw [hW0]; exact up_alloc k0
  have K1 : W0.cell? ⟨w4.heap.size, 1, none⟩ = some (.float .f64 (lowK ys n)) := by rw [hW0]; exact up_alloc k1
  have K2 : W0.cell? ⟨w4.heap.size, 2, none⟩ = some (.float .f64 (highK xs n)) := by rw [hW0]; exact up_alloc k2
  have K3 : W0.cell? ⟨w4.heap.size, 3, none⟩ = some (.float .f64 (highK ys n)) := by rw [hW0]; exact up_alloc k3
  have L0 : W0.cell? ⟨w5.heap.size, 0, none⟩ = some (.float .f64 (lowK xs n)) := by rw [hW0]; go_keep
  have L1 : W0.cell? ⟨w5.heap.size, 1, none⟩ = some (.float .f64 (lowK ys n)) := by rw [hW0]; go_keep
  have L2 : W0.cell? ⟨w5.heap.size, 2, none⟩ = some (.float .f64 (highK xs n)) := by rw [hW0]; go_keep
  have L3 : W0.cell? ⟨w5.heap.size, 3, none⟩ = some (.float .f64 (highK ys n)) := by rw [hW0]; go_keep
  have hr0 : ∀ i, i < n + 1 → W0.cell? ⟨g, i * 2, none⟩ = some (.float .f64 (xs i)) ∧ W0.cell? ⟨g, i * 2 + 1, none⟩ = some (.float .f64 (ys i)) := fun i hi => by
    have h := hr3 i hi
    rw [Nat.zero_add] at h
    exact ⟨keep B35 h.1, keep B35 h.2⟩
  have hl0 : ∀ i, i < n + 1 → W0.cell? ⟨b, off + i * 2, none⟩ = some (.float .f64 (xs i)) ∧ W0.cell? ⟨b, off + i * 2 + 1, none⟩ = some (.float .f64 (ys i)) := fun i hi => ⟨keep B35 (hl3 i hi).1, keep B35 (hl3 i hi).2⟩
  have m0 := keep B35 (h7 0 (by decide))
  have m1 := keep B35 (h7 1 (by decide))
  have m2 := keep B35 (h7 2 (by decide))
  have m3 := keep B35 (h7 3 (by decide))
  clear hl4 hl3 hr3 h7 k0 k1 k2 k3 hb4 hb5 B35 bel
  go_wp2
  rw [← hW0]
  clear hW0
  go_loopw [9] (fun i wr => ∃ k : Nat, k ≤ n + 1 ∧ i = .int .i64 k ∧ Bel W0 wr) (fun i _ => n + 1 - (intOf i).toNat)
  case atStart => exact ⟨0, by omega, rfl, bl_refl _⟩
  case round =>
    obtain ⟨k, hk, rfl, hB⟩ := hrel
    by_cases hlt : k < n + 1
    · have x0 := keep hB (hr0 k hlt).1
      have x1 := keep hB (hr0 k hlt).2
      have y0 := keep hB (hl0 k hlt).1
      have y1 := keep hB (hl0 k hlt).2
      have bd1 : (0 : Int) ≤ (k : Int) := by omega
      have bd2 : (k : Int) < (n : Int) + 1 := by omega
      have bd3 : (k : Int).toNat = k := by omega
      go_wp2
      go_region_with (first | (go_at_call 34; refine (rSame_same _ _ _).mono ?_; rintro e w6 ⟨rfl, hb6⟩; have B6 : Bel W0 w6 := bl_trans (by first | exact hB | exact bl_drew hB | exact bl_drewN hB _) hb6))
      all_goals go_wp2
      all_goals exact ⟨⟨k + 1, by omega, by go_num, B6⟩, by simp [intOf]; omega⟩
    · have hkn : k = n + 1 := by omega
      subst hkn
      have p0 := keep hB K0
      have p1 := keep hB K1
      have p2 := keep hB K2
      have p3 := keep hB K3
      have q0 := keep hB L0
      have q1 := keep hB L1
      have q2 := keep hB L2
      have q3 := keep hB L3
      have z0 : wr.cell? ⟨g, (n + 1) * 2, none⟩ = some (.float .f64 4635118810238550016) := keep hB m0
      have z1 : wr.cell? ⟨g, (n + 1) * 2 + 1, none⟩ = some (.float .f64 0) := keep hB m1
      have z2 : wr.cell? ⟨g, (n + 1 + 1) * 2, none⟩ = some (.float .f64 0) := by rw [show (n + 1 + 1) * 2 = (n + 1) * 2 + 2 by omega]; exact keep hB m2
      have z3 : wr.cell? ⟨g, (n + 1 + 1) * 2 + 1, none⟩ = some (.float .f64 4635189178982727680) := by rw [show (n + 1 + 1) * 2 + 1 = (n + 1) * 2 + 3 by omega]; exact keep hB m3
      have b1 : (0 : Int) ≤ (n : Int) + 1 := by omega
      have b2 : (n : Int) + 1 < (n : Int) + 3 := by omega
      have b3 : (0 : Int) ≤ (n : Int) + 1 + 1 := by omega
      have b4 : (n : Int) + 1 + 1 < (n : Int) + 3 := by omega
      have b5 : ((n : Int) + 1).toNat = n + 1 := by omega
      have b6 : ((n : Int) + 1 + 1).toNat = n + 1 + 1 := by omega
      have b7 : n + 1 < n + 3 := by omega
      have b8 : n + 1 + 1 < n + 3 := by omega
      have c1 := cmp_eq .f64
      have r1 := fun (d x y : Nat) (w : World) => run_equalIn_fl Try.prog w d 22 .f64 x y Try.underlying22
      have r2 := fun (x y : Nat) (w : World) => run_equalIn_float Try.prog w 22 .f64 x y Try.underlying22
      have r3 := fun (x y : Nat) (w : World) => run_equalIn_fl Try.prog w 9997 22 .f64 x y Try.underlying22
      have e1 : eqK .f64 4635118810238550016 4635118810238550016 = true := by decide +kernel
      have e2 : eqK .f64 4635189178982727680 4635189178982727680 = true := by decide +kernel
      have e3 : eqK .f64 0 0 = true := by decide +kernel
      go_wp2_with (first | (go_at_call 14; refine (bis_self _ _ _ _ _).mono ?_; rintro e w7 ⟨rfl, hb7⟩; have y0 := keep hb7 z0; have y1 := keep hb7 z1; have y2 := keep hb7 z2; have y3 := keep hb7 z3; have B7 := bl_trans hB hb7))
      all_goals
        go_ret
        exact ⟨rfl, bel0.trans (B7.1.mono bel0.size)⟩
set_option maxRecDepth 1000000 in
set_option maxHeartbeats 8000000 in
theorem walk_nil (w : World) :
    Calls Try.prog 4 #[.slice none 0 0] w fun e w' => e = .returned (.bool true) ∧ Below w.heap.size w w' := by
  obtain ⟨i0, hi, hz0, hz1, hz2⟩ := info_parts info_vec
  have al := World.cell?_alloc_some
  have c1 := cmp_eq .f64
  have r1 := fun (d x y : Nat) (w : World) => run_equalIn_fl Try.prog w d 22 .f64 x y Try.underlying22
  have r2 := fun (x y : Nat) (w : World) => run_equalIn_float Try.prog w 22 .f64 x y Try.underlying22
  have r3 := fun (x y : Nat) (w : World) => run_equalIn_fl Try.prog w 9997 22 .f64 x y Try.underlying22
  have e1 : eqK .f64 4635118810238550016 4635118810238550016 = true := by decide +kernel
  have e2 : eqK .f64 4635189178982727680 4635189178982727680 = true := by decide +kernel
  have e3 : eqK .f64 0 0 = true := by decide +kernel
  go_enter Try.func4, Try.ntmps4
  go_wp2_with (first | (go_at_call 9; refine (balive_any _).mono ?_; rintro e w1 ⟨rfl, hb1⟩; have own0 := World.ownsRow_lit (size := 2) (e := 24) (base := w1.heap.size) w1 #[] 0 (Nat.le_refl _) (by decide) rfl) | (at_builtin; have z := hN1; clear z; refine wpList_append_own _ rfl _ _ 40 rfl w1.heap.size 24 i0 (.agg #[.float .f64 0, .float .f64 0]) 2 16 Try.underlying40 hi hz0 hz1 hz2 rfl (by decide) _ _ _ rfl (own0.alloc _) ⟨_, 0, none⟩ 2 2 [.float .f64 4635118810238550016, .float .f64 0, .float .f64 0, .float .f64 4635189178982727680] rfl rfl ?c1 ?c2 ?c3 ?c4 ?c5 ?_) | (at_builtin; refine wpList_append_own_none rfl _ _ 40 rfl w1.heap.size 24 i0 2 Try.underlying40 hi _ _ _ rfl own0 rfl ?_; have hN1 := hide True.intro) | go_in)
  case c1 =>
    intro j u hj
    match j, hj with
    | 0, hj => simp at hj; subst hj; simp [Addr.add]
    | 1, hj => simp at hj; subst hj; simp [Addr.add]
    | 2, hj => simp at hj; subst hj; simp [Addr.add]
    | 3, hj => simp at hj; subst hj; simp [Addr.add]
  case c2 => intro u hu; simp at hu; rcases hu with rfl | rfl | rfl | rfl <;> rfl
  case c3 => unfold maxLen; omega
  case c4 => omega
  case c5 => simp; omega
  have own2 := own0
  have bel2 : Below w1.heap.size w1 (w1.alloc (Obj.cells #[] 24)) := (Below.refl w1.heap.size w1).alloc (Nat.le_refl _) _
  have hsz2 := bel2.size
  intro v3 w3 own3 hgrow3 _
  have bel3 : Below w1.heap.size w1 w3 := (bel2.alloc hsz2 _).grown hgrow3 (by simp; omega) fun j hj => (own2.lt j hj).1
  have bel : Below w.heap.size w w3 := hb1.1.trans (bel3.mono hb1.size)
  obtain ⟨g, cap3, hv3, hcap3, h7⟩ : ∃ g cap3, v3 = .slice (some ⟨g, 0, none⟩) 2 cap3 ∧ 2 ≤ cap3 ∧ ∀ j, j < 4 → w3.cell? ⟨g, j, none⟩ = [Value.float .f64 4635118810238550016, .float .f64 0, .float .f64 0, .float .f64 4635189178982727680][j]? := by
    have hh := own3
    rcases own3.2 with ⟨_, h⟩ | ⟨g, cap3, cur, hv, _, _, hle, _⟩
    · omega
    · subst hv
      refine ⟨g, cap3, rfl, by omega, fun j hj => ?_⟩
      have := hh.cellAt j (by omega)
      simpa using this
  clear own2 own3 hgrow3 bel2 bel3 hb1
  rw [hv3]
  go_wp2_with fail
  refine (xOf_none _ _ _).mono ?_
  rintro e w4 ⟨rfl, hb4⟩
  go_wp2_with fail
  refine (rOf_none _ _ _).mono ?_
  rintro e w5 ⟨rfl, hb5⟩
  have k0 := keep hb5 (a := ⟨w4.heap.size, 0, none⟩) (v := .float .f64 0) (by go_keep)
  have k1 := keep hb5 (a := ⟨w4.heap.size, 1, none⟩) (v := .float .f64 0) (by go_keep)
  have k2 := keep hb5 (a := ⟨w4.heap.size, 2, none⟩) (v := .float .f64 0) (by go_keep)
  have k3 := keep hb5 (a := ⟨w4.heap.size, 3, none⟩) (v := .float .f64 0) (by go_keep)
  have B35 : Bel w3 (w5.alloc (Obj.cells #[.float .f64 0, .float .f64 0, .float .f64 0, .float .f64 0] 26)) := bl_alloc (bl_trans (bl_alloc hb4 _ _) hb5) _ _
  have m0 := keep B35 (h7 0 (by decide))
  have m1 := keep B35 (h7 1 (by decide))
  have m2 := keep B35 (h7 2 (by decide))
  have m3 := keep B35 (h7 3 (by decide))
  go_wp2
  refine wp_loop_rounds 1 ?_
  rw [rounds_succ]
  go_wp2_with (first | (go_at_call 14; refine (bis_self _ _ _ _ _).mono ?_; rintro e w7 ⟨rfl, hb7⟩; have y0 : w7.cell? ⟨g, 0, none⟩ = some (.float .f64 4635118810238550016) := keep hb7 m0; have y1 : w7.cell? ⟨g, 1, none⟩ = some (.float .f64 0) := keep hb7 m1; have y2 : w7.cell? ⟨g, 2, none⟩ = some (.float .f64 0) := keep hb7 m2; have y3 : w7.cell? ⟨g, 3, none⟩ = some (.float .f64 4635189178982727680) := keep hb7 m3; have B7 := bl_trans B35 hb7))
  all_goals
    go_ret
    exact ⟨rfl, bel.trans (B7.1.mono bel.size)⟩
set_option maxRecDepth 1000000 in
set_option maxHeartbeats 8000000 in
theorem walk_zero (x : Addr) (cap : Nat) (w : World) :
    Calls Try.prog 4 #[.slice (some x) 0 cap] w fun e w' => e = .returned (.bool true) ∧ Below w.heap.size w w' := by
  obtain ⟨i0, hi, hz0, hz1, hz2⟩ := info_parts info_vec
  have al := World.cell?_alloc_some
  have c1 := cmp_eq .f64
  have r1 := fun (d x y : Nat) (w : World) => run_equalIn_fl Try.prog w d 22 .f64 x y Try.underlying22
  have r2 := fun (x y : Nat) (w : World) => run_equalIn_float Try.prog w 22 .f64 x y Try.underlying22
  have r3 := fun (x y : Nat) (w : World) => run_equalIn_fl Try.prog w 9997 22 .f64 x y Try.underlying22
  have e1 : eqK .f64 4635118810238550016 4635118810238550016 = true := by decide +kernel
  have e2 : eqK .f64 4635189178982727680 4635189178982727680 = true := by decide +kernel
  have e3 : eqK .f64 0 0 = true := by decide +kernel
  go_enter Try.func4, Try.ntmps4
  go_wp2_with (first | (go_at_call 9; refine (balive_any _).mono ?_; rintro e w1 ⟨rfl, hb1⟩; have own0 := World.ownsRow_lit (size := 2) (e := 24) (base := w1.heap.size) w1 #[] 0 (Nat.le_refl _) (by decide) rfl) | (at_builtin; refine wpList_append_own _ rfl _ _ 40 rfl w1.heap.size 24 i0 (.agg #[.float .f64 0, .float .f64 0]) 2 16 Try.underlying40 hi hz0 hz1 hz2 rfl (by decide) _ _ _ rfl own0 x 0 cap [] rfl rfl ?d1 ?d2 ?d3 ?d4 ?d5 ?_) | go_in)
  case d1 => intro j u hj; simp at hj
  case d2 => intro u hu; simp at hu
  case d3 => unfold maxLen; omega
  case d4 => omega
  case d5 => simp
  intro v2 w2 own2 hgrow2 _
  have bel2 : Below w1.heap.size w1 w2 := ((Below.refl w1.heap.size w1).alloc (Nat.le_refl _) _).grown hgrow2 (by simp) fun j hj => (own0.lt j hj).1
  have hsz2 := bel2.size
  clear hgrow2 own0
  go_wp2_with (first | (at_builtin; refine wpList_append_own _ rfl _ _ 40 rfl w1.heap.size 24 i0 (.agg #[.float .f64 0, .float .f64 0]) 2 16 Try.underlying40 hi hz0 hz1 hz2 rfl (by decide) _ _ _ rfl (own2.alloc _) ⟨_, 0, none⟩ 2 2 [.float .f64 4635118810238550016, .float .f64 0, .float .f64 0, .float .f64 4635189178982727680] rfl rfl ?c1 ?c2 ?c3 ?c4 ?c5 ?_) | go_in)
  case c1 =>
    intro j u hj
    match j, hj with
    | 0, hj => simp at hj; subst hj; simp [Addr.add]
    | 1, hj => simp at hj; subst hj; simp [Addr.add]
    | 2, hj => simp at hj; subst hj; simp [Addr.add]
    | 3, hj => simp at hj; subst hj; simp [Addr.add]
  case c2 => intro u hu; simp at hu; rcases hu with rfl | rfl | rfl | rfl <;> rfl
  case c3 => unfold maxLen; omega
  case c4 => omega
  case c5 => simp; omega
  intro v3 w3 own3 hgrow3 _
  have bel3 : Below w1.heap.size w1 w3 := (bel2.alloc hsz2 _).grown hgrow3 (by simp; omega) fun j hj => (own2.lt j hj).1
  have bel : Below w.heap.size w w3 := hb1.1.trans (bel3.mono hb1.size)
  obtain ⟨g, cap3, hv3, hcap3, h7⟩ : ∃ g cap3, v3 = .slice (some ⟨g, 0, none⟩) 2 cap3 ∧ 2 ≤ cap3 ∧ ∀ j, j < 4 → w3.cell? ⟨g, j, none⟩ = [Value.float .f64 4635118810238550016, .float .f64 0, .float .f64 0, .float .f64 4635189178982727680][j]? := by
    have hh := own3
    rcases own3.2 with ⟨_, h⟩ | ⟨g, cap3, cur, hv, _, _, hle, _⟩
    · omega
    · subst hv
      refine ⟨g, cap3, rfl, by omega, fun j hj => ?_⟩
      have := hh.cellAt j (by omega)
      simpa using this
  clear own2 own3 hgrow3 bel2 bel3 hb1
  rw [hv3]
  go_wp2_with fail
  refine (xOf_none _ _ _).mono ?_
  rintro e w4 ⟨rfl, hb4⟩
  go_wp2_with fail
  refine (rOf_none _ _ _).mono ?_
  rintro e w5 ⟨rfl, hb5⟩
  have k0 := keep hb5 (a := ⟨w4.heap.size, 0, none⟩) (v := .float .f64 0) (by go_keep)
  have k1 := keep hb5 (a := ⟨w4.heap.size, 1, none⟩) (v := .float .f64 0) (by go_keep)
  have k2 := keep hb5 (a := ⟨w4.heap.size, 2, none⟩) (v := .float .f64 0) (by go_keep)
  have k3 := keep hb5 (a := ⟨w4.heap.size, 3, none⟩) (v := .float .f64 0) (by go_keep)
  have B35 : Bel w3 (w5.alloc (Obj.cells #[.float .f64 0, .float .f64 0, .float .f64 0, .float .f64 0] 26)) := bl_alloc (bl_trans (bl_alloc hb4 _ _) hb5) _ _
  have m0 := keep B35 (h7 0 (by decide))
  have m1 := keep B35 (h7 1 (by decide))
  have m2 := keep B35 (h7 2 (by decide))
  have m3 := keep B35 (h7 3 (by decide))
  go_wp2
  refine wp_loop_rounds 1 ?_
  rw [rounds_succ]
  go_wp2_with (first | (go_at_call 14; refine (bis_self _ _ _ _ _).mono ?_; rintro e w7 ⟨rfl, hb7⟩; have y0 : w7.cell? ⟨g, 0, none⟩ = some (.float .f64 4635118810238550016) := keep hb7 m0; have y1 : w7.cell? ⟨g, 1, none⟩ = some (.float .f64 0) := keep hb7 m1; have y2 : w7.cell? ⟨g, 2, none⟩ = some (.float .f64 0) := keep hb7 m2; have y3 : w7.cell? ⟨g, 3, none⟩ = some (.float .f64 4635189178982727680) := keep hb7 m3; have B7 := bl_trans B35 hb7))
  all_goals
    go_ret
    exact ⟨rfl, bel.trans (B7.1.mono bel.size)⟩

/-- a row of ways: none, or len of them in cells, with room for cap -/
def IsWays (w : World) (a : Option Addr) (len cap : Nat) : Prop :=
  (a = none ∧ len = 0 ∧ cap = 0) ∨ ∃ (x : Addr) (xs ys : Nat → Nat), a = some x ∧ len ≤ cap ∧ cap ≤ maxLen ∧ len * 16 ≤ 140737488351232 ∧ ∀ i, i < len → w.cell? (x.add (i * 2)) = some (.float .f64 (xs i)) ∧ w.cell? (x.add (i * 2 + 1)) = some (.float .f64 (ys i)) ∧ okK .f64 (xs i) ∧ okK .f64 (ys i)
theorem walk (a : Option Addr) (len cap : Nat) (w : World) (h : IsWays w a len cap) :
    Calls Try.prog 4 #[.slice a len cap] w fun e w' => e = .returned (.bool true) ∧ Below w.heap.size w w' := by
  rcases h with ⟨rfl, rfl, rfl⟩ | ⟨x, xs, ys, rfl, hl, hm, hr, hcell⟩
  · exact walk_nil _
  · cases len with
    | zero => exact walk_zero _ _ _
    | succ n =>
      obtain ⟨b, off, spot⟩ := x
      have hspot : spot = none := by simpa [Addr.add] using World.cell?_spot (hcell 0 (by omega)).1
      subst hspot
      have hb : b < w.heap.size := by
        have := lt_of_cell (hcell 0 (by omega)).1
        simpa [Addr.add] using this
      exact walk_some b off n cap xs ys w hr hl hb (fun j hj => (hcell j hj).2.2.1) (fun j hj => (hcell j hj).2.2.2) fun j hj => ⟨by have h := (hcell j hj).1; rw [add_plain] at h; exact h, by have h := (hcell j hj).2.1; rw [add_plain, ← Nat.add_assoc] at h; exact h⟩

set_option maxRecDepth 100000 in
theorem lifted (os : Os) (started : os.Started) (H : Type) (enc : TypeId × Value → H) :
    ReturnsInHanded {} Try.checked os 4 .any (Rows.boxOfSpec.pre6 enc Try.prog Try.f4 Rows.boxOfRow.domain false) (Rows.boxOfSpec.post enc Try.prog Try.f4 false true false false) := by
  refine returnsInHanded_of_change_sized (C := Try.checked) own started (by kernel_rfl) Try.func4
    (ChangeSpec.witness6 (enc := enc) (C := Try.checked) false ⟨#[], #[.slice none 0 0], []⟩ 8 (by kernel_rfl) (by kernel_rfl) (by kernel_rfl) (by kernel_rfl)) ?_
  intro W base args ds gs before hval0 hW hcnd hsz0 _
  have hsz : (DataW.weightsEach Try.prog (Try.f4.params.toList ++ Rows.boxOfSpec.plain.varTypes Try.prog) (ds ++ gs)).all (· ≤ reachBytes) = true := hsz0
  have hval : ∀ (j : Nat) t v, Try.f4.params[j]? = some t → args[j]? = some v → Value.okWide Try.prog W .any base t v := hval0
  have hW' := hW
  obtain ⟨p, q, hA0, hV, rfl, hfz, hnd⟩ := hW
  have hA : DataW.TrodAll enc Try.prog W 0 (fun _ => true) true Try.f4.params.toList args.toList ds p := hA0
  rw [Try.params4] at hA hval hsz
  obtain ⟨v0, vs0, d0, ds0, p0, q0, hargs, rfl, rfl, h0, r0⟩ := trodAll_cons hA
  obtain ⟨rfl, rfl, rfl⟩ := trodAll_nil r0
  obtain rfl : args = #[v0] := by cases args; simp_all
  obtain ⟨rfl, rfl⟩ := trodVars_none hV
  obtain ⟨a0, len0, cap0, rfl⟩ := okWide_slice Try.underlying40 (hval 0 40 v0 rfl rfl)
  have k0 := h0
  have lt0 : ∀ x ∈ p0, x.block < W.heap.size := by obtain ⟨m, hm⟩ := k0; exact DataW.trod_lt m _ _ _ hm
  have w0 : IsWays W a0 len0 cap0 := by
    obtain ⟨fuel, hf⟩ := h0
    rcases Go.Deep.open_slice_pairs Try.underlying40 Try.underlying24 (by kernel_rfl) rfl rfl (by kernel_rfl) (by kernel_rfl) hf with ⟨hcs, _⟩ | ⟨x, l, c, m, n, V0, V1, D0, D1, P0, P1, hcs, _, hl, hm, hmm, hx, hcell⟩
    · simp [Value.cells] at hcs
      exact .inl hcs
    · simp [Value.cells] at hcs
      obtain ⟨rfl, rfl, rfl⟩ := hcs
      simp only [Prod.mk.injEq] at hx
      obtain ⟨rfl, rfl⟩ := hx
      have hr := sized_slice hsz (j := 0) (t := 40) (e := 24) rfl rfl Try.underlying40
      rw [show Try.prog.bytesOf 24 = 16 by kernel_rfl] at hr
      simp only [List.length_map, List.length_range, reachBytes] at hr
      have hlm : len0 ≤ m := by rw [hmm]; split <;> omega
      have V : ∀ i, ∃ xy : Nat × Nat, i < m → V0 i = .float .f64 xy.1 ∧ V1 i = .float .f64 xy.2 ∧ okK .f64 xy.1 ∧ okK .f64 xy.2 := by
        intro i
        by_cases hi : i < m
        · obtain ⟨_, _, h3, h4⟩ := hcell i hi
          obtain ⟨x, e0, _, wx⟩ := trod_fl Try.underlying22 h3
          obtain ⟨y, e1, _, wy⟩ := trod_fl Try.underlying22 h4
          simp at e0 e1
          exact ⟨(x, y), fun _ => ⟨e0, e1, wf_f64 wx, wf_f64 wy⟩⟩
        · exact ⟨(0, 0), fun h => absurd h hi⟩
      have V' := Classical.axiomOfChoice V
      obtain ⟨f, hf'⟩ := V'
      refine .inr ⟨x, fun i => (f i).1, fun i => (f i).2, rfl, hl, hm, by omega, fun i hi => ?_⟩
      obtain ⟨e0, e1, o0, o1⟩ := hf' i (by omega)
      obtain ⟨c0, c1, _, _⟩ := hcell i (by omega)
      rw [e0] at c0
      rw [e1] at c1
      exact ⟨c0, c1, o0, o1⟩
  clear hA0 hval0 hsz0
  refine (walk a0 len0 cap0 W w0).mono fun e W' ⟨he, bel0⟩ => ?_
  have bel := bel0
  subst he
  exact ⟨_, rfl, _, _, _, [], _, [], hW', trodAll_mk1 (shut_bool Try.underlying4 _), (trodAll_cons_mk (Below.trod laidOut (by kernel_rfl) (of_decide_eq_true (by kernel_rfl)) k0 bel lt0) trodAll_mk0), rfl, bel.frame _, fun h => by cases h⟩

theorem over : Rows.boxOfRow.holds Try.pinned (OpenSpec.ofChange Rows.boxOfSpec) :=
  OpenClaim.holds_of_wide 4 Try.f4 rfl rfl rfl rfl rfl rfl rfl ⟨rfl, rfl, rfl, rfl, rfl⟩ rfl rfl rfl rfl rfl (by kernel_rfl) Try.func4 (by kernel_rfl)
    (of_decide_eq_true (by kernel_rfl)) (by unfold Func.isWrapper; first | (rw [if_pos (by decide +kernel)]; kernel_rfl) | (rw [if_neg (by decide +kernel)]; exact ⟨rfl, rfl⟩))
    (fun os started H enc _ => lifted os started H enc)

theorem proved : Rows.BoxOfSaid :=
  over
#print axioms proved
end Go.Proofs.Ytdpbkfdccoogkaa.boxOf
