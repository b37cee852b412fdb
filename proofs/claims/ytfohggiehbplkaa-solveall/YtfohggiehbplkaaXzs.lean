/-
  What each function of package poly answers, and what the reference of its chapter answers: one contract a function, for every float: the answer stands in the relation of its formula to what was given; of the memory that was there nothing has turned.
-/
import Derived.Test.YtfohggiehbplkaaVec
import Derived.Test.YtfohggiehbplkaaXzk
import Derived.Below
import Derived.OwnWalk
import Derived.Laws.AppendOwn
import Derived.Lib.SliceRun
import Derived.Laws.MakeOwn
import Derived.WalkKit
import Derived.WalkLawsBesides
import Derived.WalkSpells
import Derived.ProofKit
import Derived.OpenShut
import Derived.Deep.RegionHeld3
namespace Go.Proofs.Ytfohggiehbplkaa
open Go.ChangeShapes Go.WideShapes Go.ChangeAt Go.RowKit
set_option linter.unusedVariables false
set_option linter.unusedSimpArgs false

theorem own_therec {sz base : Nat} {w : World} {g cap n : Nat} {R : List Value} (h : OwnR sz base w (.slice (some ⟨g, 0, none⟩) n cap) n R) : base ≤ g ∧ n ≤ cap ∧ cap ≤ maxLen ∧ Rw w g 0 R ∧ w.there g 0 (cap * sz) := by
 rcases h.2 with ⟨h2, _⟩ | ⟨k, c, e, h1, h2, h3, h4, h5, h6⟩
 ·cases h2
 ·injection e with e1 e2 e3
  injection e1 with e1
  injection e1 with e1
  subst e1 e3
  refine ⟨h1, h2, h3, h4, fun j hj => ?_⟩
  rw [Nat.zero_add]
  exact ⟨h5 j hj, h6 j⟩

/-- rows of one's own -/
def Owcr (w w' : World) (v : Value) (n : Nat) (Q : Nat → RD) : Prop := ∃ g cap sl, v = .slice sl n cap ∧ ((n = 0 ∧ cap = 0) ∨ (0 < n ∧ sl = some ⟨g, 0, none⟩)) ∧ n ≤ cap ∧ cap ≤ maxLen ∧ w.heap.size ≤ g ∧ Rws w' g 0 n Q ∧ w'.there g 0 (cap * 14)
set_option maxRecDepth 100000 in
set_option maxHeartbeats 4000000 in
theorem cloneR_c (rb ro rn rc_ : Nat) (rs : Option Addr) (Q : Nat → RD) (w : World) (hrs : rn = 0 ∨ rs = some ⟨rb, ro, none⟩) (hrc : rn ≤ rc_) (hrm : rc_ ≤ maxLen) (hr : Rws w rb ro rn Q) (or_ : ∀ i, i < rn → rok (Q i)) (hlim : rn ≤ 1048576) : Calls Try.prog 115 #[.slice rs rn rc_] w fun e w' => ∃ v, Owcr w w' v rn Q ∧ e = .returned (v) ∧ Bel w w' := by
 have b0 : Bel w (w.alloc (.cells #[] 43)) := bl_alloc (bl_refl w) _ _
 rcases Nat.eq_zero_or_pos rn with hz | hp
 ·subst hz
  cases rs with
  | none =>
   have qs := fun w : World => Go.Lib.run_eql_slice_nil (P := Try.prog) w 30 43 none 0 rc_ 0 0 Try.underlying30
   go_enter Try.func115, Try.ntmps115
   repeat (first | go_values | go_skip | go_guarded | go_step | go_upon | go_back | dsimp only)
   go_ret
   exact ⟨_, ⟨w.heap.size, 0, none, rfl, .inl ⟨rfl, rfl⟩, Nat.le_refl _, Nat.zero_le _, Nat.le_refl _, fun i hi => by omega, fun j hj => by omega⟩, rfl, bl_refl w⟩
  | some ad =>
   have qs := fun w : World => Go.Lib.run_eql_slice_nil (P := Try.prog) w 30 43 (some ad) 0 rc_ 0 0 Try.underlying30
   go_enter Try.func115, Try.ntmps115
   go_wp2_with (first | (at_builtin; refine wpList_runX 30 rfl (.tmp 5) (.tmp 6) rfl rfl rfl (run_app0r _ _ rc_ w.heap.size (some ad)) ?_))
   go_ret
   exact ⟨_, ⟨w.heap.size, 0, some ⟨w.heap.size, 0, none⟩, rfl, .inl ⟨rfl, rfl⟩, Nat.le_refl _, Nat.zero_le _, Nat.le_refl _, fun i hi => by omega, fun j hj => by omega⟩, rfl, b0⟩
 ·have e9 : rs = some ⟨rb, ro, none⟩ := by rcases hrs with h | h; omega; exact h
  subst e9
  have qs := fun w : World => Go.Lib.run_eql_slice_nil (P := Try.prog) w 30 43 (some ⟨rb, ro, none⟩) rn rc_ 0 0 Try.underlying30
  obtain ⟨v', w', hr1, hr2, ⟨g, cap, rfl⟩, hr4⟩ := run_appR (P := Try.prog) 30 30 43 Try.underlying30 info_row rfl rb ro rn rc_ (ownR_zero 14 w 43) (rowsL_len Q rn) (rowsL_rw (hr.bel b0)) (rowsL_one Q rn) hp b0.size (by unfold maxLen; omega) (by omega)
  go_enter Try.func115, Try.ntmps115
  go_wp2_with (first | (at_builtin; refine wpList_runX 30 rfl (.tmp 5) (.tmp 6) rfl rfl rfl hr1 ?_))
  go_ret
  simp only [Nat.zero_add, List.nil_append] at hr2
  obtain ⟨g1, g2, g3, g4, g5⟩ := own_therec hr2
  exact ⟨_, ⟨g, cap, some ⟨g, 0, none⟩, by simp, .inr ⟨hp, rfl⟩, g2, g3, g1, rowsL_at (N := []) (by rwa [List.append_nil]), g5⟩, rfl, hr4 w b0 (Nat.le_refl _)⟩

/-- rows of one's own -/
def Owcs (w w' : World) (v : Value) (n : Nat) (Q : Nat → SD) : Prop := ∃ g cap sl, v = .slice sl n cap ∧ ((n = 0 ∧ cap = 0) ∨ (0 < n ∧ sl = some ⟨g, 0, none⟩)) ∧ n ≤ cap ∧ cap ≤ maxLen ∧ w.heap.size ≤ g ∧ Sts w' g 0 n Q ∧ w'.there g 0 (cap * 5)
set_option maxRecDepth 100000 in
set_option maxHeartbeats 4000000 in
theorem cloneS_c (sb so sn sc_ : Nat) (ss : Option Addr) (S : Nat → SD) (w : World) (hss : sn = 0 ∨ ss = some ⟨sb, so, none⟩) (hsc : sn ≤ sc_) (hsm : sc_ ≤ maxLen) (hs : Sts w sb so sn S) (os : ∀ i, i < sn → sok (S i)) (hlim : sn ≤ 1024) : Calls Try.prog 116 #[.slice ss sn sc_] w fun e w' => ∃ v, Owcs w w' v sn S ∧ e = .returned (v) ∧ Bel w w' := by
 have b0 : Bel w (w.alloc (.cells #[] 45)) := bl_alloc (bl_refl w) _ _
 rcases Nat.eq_zero_or_pos sn with hz | hp
 ·subst hz
  cases ss with
  | none =>
   have qs := fun w : World => Go.Lib.run_eql_slice_nil (P := Try.prog) w 61 45 none 0 sc_ 0 0 Try.underlying61
   go_enter Try.func116, Try.ntmps116
   repeat (first | go_values | go_skip | go_guarded | go_step | go_upon | go_back | dsimp only)
   go_ret
   exact ⟨_, ⟨w.heap.size, 0, none, rfl, .inl ⟨rfl, rfl⟩, Nat.le_refl _, Nat.zero_le _, Nat.le_refl _, fun i hi => by omega, fun j hj => by omega⟩, rfl, bl_refl w⟩
  | some ad =>
   have qs := fun w : World => Go.Lib.run_eql_slice_nil (P := Try.prog) w 61 45 (some ad) 0 sc_ 0 0 Try.underlying61
   go_enter Try.func116, Try.ntmps116
   go_wp2_with (first | (at_builtin; refine wpList_runX 61 rfl (.tmp 5) (.tmp 6) rfl rfl rfl (run_app0s _ _ sc_ w.heap.size (some ad)) ?_))
   go_ret
   exact ⟨_, ⟨w.heap.size, 0, some ⟨w.heap.size, 0, none⟩, rfl, .inl ⟨rfl, rfl⟩, Nat.le_refl _, Nat.zero_le _, Nat.le_refl _, fun i hi => by omega, fun j hj => by omega⟩, rfl, b0⟩
 ·have e9 : ss = some ⟨sb, so, none⟩ := by rcases hss with h | h; omega; exact h
  subst e9
  have qs := fun w : World => Go.Lib.run_eql_slice_nil (P := Try.prog) w 61 45 (some ⟨sb, so, none⟩) sn sc_ 0 0 Try.underlying61
  obtain ⟨v', w', hr1, hr2, ⟨g, cap, rfl⟩, hr4⟩ := run_appR (P := Try.prog) 61 61 45 Try.underlying61 info_still rfl sb so sn sc_ (ownR_zero 5 w 45) (stL_len S sn) (stL_rw (hs.bel b0)) (stL_one S sn) hp b0.size (by unfold maxLen; omega) (by omega)
  go_enter Try.func116, Try.ntmps116
  go_wp2_with (first | (at_builtin; refine wpList_runX 61 rfl (.tmp 5) (.tmp 6) rfl rfl rfl hr1 ?_))
  go_ret
  simp only [Nat.zero_add, List.nil_append] at hr2
  obtain ⟨g1, g2, g3, g4, g5⟩ := own_therec hr2
  exact ⟨_, ⟨g, cap, some ⟨g, 0, none⟩, by simp, .inr ⟨hp, rfl⟩, g2, g3, g1, stL_at (N := []) (by rwa [List.append_nil]), g5⟩, rfl, hr4 w b0 (Nat.le_refl _)⟩
theorem Owcr.base {w W W' : World} {v : Value} {n : Nat} {Q : Nat → RD} (h : Owcr W W' v n Q) (g : w.heap.size ≤ W.heap.size) : Owcr w W' v n Q := by
 obtain ⟨a, b, c, h1, h2, h3, h4, h5, h6⟩ := h
 exact ⟨a, b, c, h1, h2, h3, h4, Nat.le_trans g h5, h6⟩
theorem Owcr.bel {w W W' : World} {v : Value} {n : Nat} {Q : Nat → RD} (h : Owcr w W v n Q) (g : Bel W W') : Owcr w W' v n Q := by
 obtain ⟨a, b, c, h1, h2, h3, h4, h5, h6, h7⟩ := h
 exact ⟨a, b, c, h1, h2, h3, h4, h5, h6.bel g, bel_there h7 g⟩
theorem Owcr.sets {w W : World} {v : Value} {n q : Nat} {Q : Nat → RD} {cs : List Value} (h : Owcr w W v n Q) (hq : q < w.heap.size) : Owcr w (W.setCells q 0 cs) v n Q := by
 obtain ⟨a, b, c, h1, h2, h3, h4, h5, h6, h7⟩ := h
 refine ⟨a, b, c, h1, h2, h3, h4, h5, fun i hi => ?_, World.there_setCells h7 _ _ _⟩
 exact World.rangeAt_setCells_apart (h6 i hi) _ _ _ (.inl (by omega))

theorem Owcs.base {w W W' : World} {v : Value} {n : Nat} {Q : Nat → SD} (h : Owcs W W' v n Q) (g : w.heap.size ≤ W.heap.size) : Owcs w W' v n Q := by
 obtain ⟨a, b, c, h1, h2, h3, h4, h5, h6⟩ := h
 exact ⟨a, b, c, h1, h2, h3, h4, Nat.le_trans g h5, h6⟩
theorem Owcs.bel {w W W' : World} {v : Value} {n : Nat} {Q : Nat → SD} (h : Owcs w W v n Q) (g : Bel W W') : Owcs w W' v n Q := by
 obtain ⟨a, b, c, h1, h2, h3, h4, h5, h6, h7⟩ := h
 exact ⟨a, b, c, h1, h2, h3, h4, h5, h6.bel g, bel_there h7 g⟩
theorem Owcs.sets {w W : World} {v : Value} {n q : Nat} {Q : Nat → SD} {cs : List Value} (h : Owcs w W v n Q) (hq : q < w.heap.size) : Owcs w (W.setCells q 0 cs) v n Q := by
 obtain ⟨a, b, c, h1, h2, h3, h4, h5, h6, h7⟩ := h
 refine ⟨a, b, c, h1, h2, h3, h4, h5, fun i hi => ?_, World.there_setCells h7 _ _ _⟩
 exact World.rangeAt_setCells_apart (h6 i hi) _ _ _ (.inl (by omega))

set_option maxRecDepth 100000 in
set_option maxHeartbeats 4000000 in
theorem copied_c (rb ro rn rc_ : Nat) (rs : Option Addr) (Q : Nat → RD) (sb so sn sc_ : Nat) (ss : Option Addr) (S : Nat → SD) (w : World) (hrs : rn = 0 ∨ rs = some ⟨rb, ro, none⟩) (hrc : rn ≤ rc_) (hrm : rc_ ≤ maxLen) (hr : Rws w rb ro rn Q) (or_ : ∀ i, i < rn → rok (Q i)) (hss : sn = 0 ∨ ss = some ⟨sb, so, none⟩) (hsc : sn ≤ sc_) (hsm : sc_ ≤ maxLen) (hs : Sts w sb so sn S) (os : ∀ i, i < sn → sok (S i)) (hl1 : rn ≤ 1048576) (hl2 : sn ≤ 1024) : Calls Try.prog 72 #[.agg #[.slice rs rn rc_, .slice ss sn sc_]] w fun e w' => ∃ v1 v2, Owcr w w' v1 rn Q ∧ Owcs w w' v2 sn S ∧ e = .returned (.agg #[v1, v2]) ∧ Bel w w' := by
 have B0 : Bel w ((w.alloc (.cells #[.slice rs rn rc_, .slice ss sn sc_] 116)).alloc (.cells #[.slice none 0 0, .slice none 0 0] 116)) := bl_alloc (bl_alloc (bl_refl w) _ _) _ _
 have hT0 : ((w.alloc (.cells #[.slice rs rn rc_, .slice ss sn sc_] 116)).alloc (.cells #[.slice none 0 0, .slice none 0 0] 116)).rangeAt (w.heap.size) 0 [.slice rs rn rc_, .slice ss sn sc_] := World.rangeAt_alloc (rng_new w [.slice rs rn rc_, .slice ss sn sc_] 116) _
 have hT1 : ((w.alloc (.cells #[.slice rs rn rc_, .slice ss sn sc_] 116)).alloc (.cells #[.slice none 0 0, .slice none 0 0] 116)).there (w.heap.size + 1) 0 2 := by have h := there_new (w.alloc (.cells #[.slice rs rn rc_, .slice ss sn sc_] 116)) [.slice none 0 0, .slice none 0 0] 116; rwa [World.size_alloc] at h
 have hz2 : ((w.alloc (.cells #[.slice rs rn rc_, .slice ss sn sc_] 116)).alloc (.cells #[.slice none 0 0, .slice none 0 0] 116)).heap.size = w.heap.size + 1 + 1 := by simp only [World.size_alloc]
 have k0 : ((w.alloc (.cells #[.slice rs rn rc_, .slice ss sn sc_] 116)).alloc (.cells #[.slice none 0 0, .slice none 0 0] 116)).cell? ⟨w.heap.size, 0, none⟩ = some (.slice rs rn rc_) := hT0 0 _ rfl
 have k1 : ((w.alloc (.cells #[.slice rs rn rc_, .slice ss sn sc_] 116)).alloc (.cells #[.slice none 0 0, .slice none 0 0] 116)).cell? ⟨w.heap.size, 1, none⟩ = some (.slice ss sn sc_) := hT0 1 _ rfl
 go_enter Try.func72, Try.ntmps72
 go_wp2
 refine wp_region_monoT 7 (fun i W v => match i with | 0 => v = .pointer (some ⟨w.heap.size, 0, none⟩) | 1 => v = .slice rs rn rc_ | 2 => Owcr ((w.alloc (.cells #[.slice rs rn rc_, .slice ss sn sc_] 116)).alloc (.cells #[.slice none 0 0, .slice none 0 0] 116)) W v rn Q | 3 => v = .pointer (some ⟨w.heap.size, 1, none⟩) | 4 => v = .slice ss sn sc_ | 5 => Owcs ((w.alloc (.cells #[.slice rs rn rc_, .slice ss sn sc_] 116)).alloc (.cells #[.slice none 0 0, .slice none 0 0] 116)) W v sn S | 6 => ∃ v1 v2, Owcr ((w.alloc (.cells #[.slice rs rn rc_, .slice ss sn sc_] 116)).alloc (.cells #[.slice none 0 0, .slice none 0 0] 116)) W v1 rn Q ∧ Owcs ((w.alloc (.cells #[.slice rs rn rc_, .slice ss sn sc_] 116)).alloc (.cells #[.slice none 0 0, .slice none 0 0] 116)) W v2 sn S ∧ v = .agg #[v1, v2] | _ => False) ?A_wt (by kernel_rfl) (by kernel_rfl) ?hA_wt ?hmo_wt ?hq_wt [7] rfl ?ht_wt
 case hA_wt =>
  intro s
  simp only [putL, dstO, Act.put, List.getElem?_toArray, List.getElem?_cons_zero, List.getElem?_cons_succ, Option.bind_some, List.setIfInBounds_toArray, List.set_cons_zero, List.set_cons_succ, if_true]
  all_goals exact rfl
 case hmo_wt =>
  intro i W W' v hi hb h
  rcases (show i = 0 ∨ i = 1 ∨ i = 2 ∨ i = 3 ∨ i = 4 ∨ i = 5 ∨ i = 6 by omega) with rfl | rfl | rfl | rfl | rfl | rfl | rfl
  all_goals first | exact h | exact h.bel hb | (obtain ⟨v1, v2, q1, q2, q3⟩ := h; exact ⟨v1, v2, q1.bel hb, q2.bel hb, q3⟩)
 case hq_wt =>
  intro i o hi ho s W hs hb K hK
  have u0 := keep hb k0; have u1 := keep hb k1
  rcases (show i = 0 ∨ i = 1 ∨ i = 2 ∨ i = 3 ∨ i = 4 ∨ i = 5 ∨ i = 6 by omega) with rfl | rfl | rfl | rfl | rfl | rfl | rfl
  rotate_left 1
  cases ho
  have e0 : s 0 = _ := hs 0 (by decide) (by kernel_rfl)
  simp only [e0] at hK ⊢
  rotate_left 1
  cases ho
  have e1 : s 1 = _ := hs 1 (by decide) (by kernel_rfl)
  simp only [e1] at hK ⊢
  rotate_left 2
  cases ho
  have e3 : s 3 = _ := hs 3 (by decide) (by kernel_rfl)
  simp only [e3] at hK ⊢
  rotate_left 1
  cases ho
  have e4 : s 4 = _ := hs 4 (by decide) (by kernel_rfl)
  simp only [e4] at hK ⊢
  rotate_left 1
  ·cases ho
   obtain h2 := hs 2 (by decide) (by kernel_rfl)
   obtain h5 := hs 5 (by decide) (by kernel_rfl)
   simp only [Act.put, List.setIfInBounds_toArray, List.set_cons_zero, List.set_cons_succ] at hK
   clear hs
   obtain ⟨g1, c1, a1, e2, p1⟩ := h2
   obtain ⟨g2, c2, a2, e5, p2⟩ := h5
   simp only [e2, e5] at hK ⊢
   refine wp_build 116 _ rfl (.agg #[.slice a1 rn c1, .slice a2 sn c2]) (by kernel_rfl) ?_
   exact hK.out _ _ ⟨_, _, ⟨g1, c1, a1, rfl, p1⟩, ⟨g2, c2, a2, rfl, p2⟩, rfl⟩ (bl_refl _)
  all_goals
   try cases ho
   simp only [Act.put, List.setIfInBounds_toArray, List.set_cons_zero, List.set_cons_succ] at hK
   clear hs
   go_simp
   all_goals (try go_wp2_with (first | (go_at_call 115; (with_reducible refine (cloneR_c rb ro rn rc_ rs Q _ hrs hrc hrm (hr.bel (bl_trans B0 hb)) or_ hl1).mono ?_); rintro e w' ⟨v9, hv9, rfl, hb1⟩; replace hv9 := hv9.base hb.size) | (go_at_call 116; (with_reducible refine (cloneS_c sb so sn sc_ ss S _ hss hsc hsm (hs.bel (bl_trans B0 hb)) os hl2).mono ?_); rintro e w' ⟨v9, hv9, rfl, hb1⟩; replace hv9 := hv9.base hb.size)))
   all_goals first | exact hK.out _ _ hv9 hb1 | exact hK.out _ _ rfl (bl_refl _) | exact hK.out _ _ rfl (by assumption) | exact hK.out _ _ (by assumption) (by assumption)
 case ht_wt =>
  intro s W hs hb
  have e0 : s 0 = _ := hs 0 (by decide)
  have e1 : s 1 = _ := hs 1 (by decide)
  obtain h2 := hs 2 (by decide)
  have e3 : s 3 = _ := hs 3 (by decide)
  have e4 : s 4 = _ := hs 4 (by decide)
  obtain h5 := hs 5 (by decide)
  obtain ⟨v1, v2, h9a, h9b, e6⟩ := hs 6 (by decide)
  simp only [e0, e1, e3, e4, e6]
  clear hs e0 e1 e3 e4 e6
  obtain ⟨g1, c1, a1, rfl, p1⟩ := h9a
  obtain ⟨g2, c2, a2, rfl, p2⟩ := h9b
  have hth := bel_there hT1 hb
  refine tail_step rfl (fun K hK => ?_)
  rw [if_pos (by kernel_rfl)]
  refine wp_store_mid (P := Try.prog) 116 _ _ rfl (w.heap.size + 1) 0 #[.slice a1 rn c1, .slice a2 sn c2] rfl rfl hth (by kernel_rfl) (by kernel_rfl) ?_
  refine hK.out _ _ ?_
  clear hK K
  refine tail_end ?_
  have B9 : Bel w (W.setCells (w.heap.size + 1) 0 [.slice a1 rn c1, .slice a2 sn c2]) := bel_setsJ _ _ (bl_trans B0 hb) (by omega)
  have q1 : Owcr w (W.setCells (w.heap.size + 1) 0 [.slice a1 rn c1, .slice a2 sn c2]) (.slice a1 rn c1) rn Q := (Owcr.sets ⟨g1, c1, a1, rfl, p1⟩ (by rw [hz2]; omega)).base B0.size
  have q2 : Owcs w (W.setCells (w.heap.size + 1) 0 [.slice a1 rn c1, .slice a2 sn c2]) (.slice a2 sn c2) sn S := (Owcs.sets ⟨g2, c2, a2, rfl, p2⟩ (by rw [hz2]; omega)).base B0.size
  have hL := World.rangeAt_setCells_same _ _ _ [.slice a1 rn c1, .slice a2 sn c2] hth
  go_wp2
  refine bodyPost_ret (results_c (c := 2) (ty := 116) rfl rfl (run_loadVar_mid _ (w.heap.size + 1) 0 116 [.slice a1 rn c1, .slice a2 sn c2] _ hL Try.underlying116 rfl (by kernel_rfl))) rfl ?_
  first | exact ⟨_, q1, _, q2, rfl, B9⟩ | exact ⟨_, _, q1, q2, rfl, B9⟩

/-- what All answers: rows and stills of its own, with all their room -/
def AllC (w w' : World) (v1 v2 : Value) (rn sn : Nat) (Q : Nat → RD) (M : Nat → SD) : Prop := ∃ gr rc rs gs sc ss, v1 = .slice rs rn rc ∧ v2 = .slice ss sn sc ∧ (rn = 0 ∨ rs = some ⟨gr, 0, none⟩) ∧ rn ≤ rc ∧ rc ≤ maxLen ∧ (sn = 0 ∨ ss = some ⟨gs, 0, none⟩) ∧ sn ≤ sc ∧ sc ≤ maxLen ∧ w.heap.size ≤ gr ∧ w.heap.size ≤ gs ∧ gr ≠ gs ∧ RwM w' gr rn Q ∧ StM w' gs sn M ∧ (rc = 0 ∨ (rs = some ⟨gr, 0, none⟩ ∧ w'.there gr 0 (rc * 14))) ∧ (sc = 0 ∨ (ss = some ⟨gs, 0, none⟩ ∧ w'.there gs 0 (sc * 5)))
theorem two_blocksc {w W : World} {v1 v2 : Value} {rn sn : Nat} {Q : Nat → RD} {S : Nat → SD} (h : Owcr w W v1 rn Q) (g : Owcs w W v2 sn S) (h0 : 0 < rn → 0 < sn) : ∃ gr rc rs gs sc ss, v1 = .slice rs rn rc ∧ v2 = .slice ss sn sc ∧ (rn = 0 ∨ rs = some ⟨gr, 0, none⟩) ∧ rn ≤ rc ∧ rc ≤ maxLen ∧ (sn = 0 ∨ ss = some ⟨gs, 0, none⟩) ∧ sn ≤ sc ∧ sc ≤ maxLen ∧ w.heap.size ≤ gr ∧ w.heap.size ≤ gs ∧ gr ≠ gs ∧ RwM W gr rn Q ∧ Sts W gs 0 sn S ∧ W.there gs 0 (sn * 5) ∧ (rc = 0 ∨ (rs = some ⟨gr, 0, none⟩ ∧ W.there gr 0 (rc * 14))) ∧ (sc = 0 ∨ (ss = some ⟨gs, 0, none⟩ ∧ W.there gs 0 (sc * 5))) := by
 obtain ⟨a, b, c, h1, h2, h3, h4, h5, h6, h7⟩ := h
 obtain ⟨a', b', c', g1, g2, g3, g4, g5, g6, g7⟩ := g
 rcases h2 with ⟨hz, hb⟩ | ⟨hp, hs1⟩
 ·refine ⟨a' + 1, b, c, a', b', c', h1, g1, .inl hz, h3, h4, ?_, g3, g4, by omega, g5, by omega, ⟨?_, ?_⟩, g6, there_sub g7 (by omega), .inl hb, ?_⟩
  ·rcases g2 with ⟨h, _⟩ | ⟨_, h⟩; exact .inl h; exact .inr h
  ·subst hz; intro j hj; omega
  ·subst hz; intro i hi; omega
  ·rcases g2 with ⟨_, h⟩ | ⟨_, h⟩; exact .inl h; exact .inr ⟨h, g7⟩
 ·have hsp := h0 hp
  have hs2 : c' = some ⟨a', 0, none⟩ := by rcases g2 with ⟨h, _⟩ | ⟨_, h⟩; omega; exact h
  refine ⟨a, b, c, a', b', c', h1, g1, .inr hs1, h3, h4, .inr hs2, g3, g4, h5, g5, ?_, ⟨there_sub h7 (by omega), h6⟩, g6, there_sub g7 (by omega), .inr ⟨hs1, h7⟩, .inr ⟨hs2, g7⟩⟩
  rintro rfl
  have q1 := h6 0 hp 0 _ rfl
  have q2 := g6 0 hsp 0 _ rfl
  simp only [Nat.zero_add, Nat.zero_mul] at q1 q2
  rw [q1] at q2
  cases q2
set_option maxRecDepth 100000 in
set_option maxHeartbeats 4000000 in
theorem all_okc (rb ro rn rc_ : Nat) (rs : Option Addr) (Q : Nat → RD) (sb so sn sc_ : Nat) (ss : Option Addr) (S : Nat → SD) (n : Nat) (w : World) (hrs : rn = 0 ∨ rs = some ⟨rb, ro, none⟩) (hrc : rn ≤ rc_) (hrm : rc_ ≤ maxLen) (hr : Rws w rb ro rn Q) (or_ : ∀ i, i < rn → rok (Q i)) (hss : sn = 0 ∨ ss = some ⟨sb, so, none⟩) (hsc : sn ≤ sc_) (hsm : sc_ ≤ maxLen) (hs : Sts w sb so sn S) (os : ∀ i, i < sn → sok (S i)) (he : asE Q rn S sn = 0) (hn : n ≤ 64) : Calls Try.prog 31 #[.slice rs rn rc_, .slice ss sn sc_, .int .i64 n] w fun e w' => ∃ v1 v2, AllC w w' v1 v2 rn sn (itM Q (fun i => tlS (S i)) rn n).1 (itM Q (fun i => tlS (S i)) rn n).2 ∧ e = .returned (.tuple #[v1, v2, .int .i64 0]) ∧ Bel w w' := by
 obtain ⟨hl1, hl2, hch, hst⟩ := asE_zero he
 have hX : (w.alloc (.cells #[.slice none 0 0, .slice none 0 0] 116)).there w.heap.size 0 2 := there_new w [.slice none 0 0, .slice none 0 0] 116
 have hT : ((w.alloc (.cells #[.slice none 0 0, .slice none 0 0] 116)).setCells w.heap.size 0 [.slice rs rn rc_, .slice ss sn sc_]).rangeAt w.heap.size 0 [.slice rs rn rc_, .slice ss sn sc_] := World.rangeAt_setCells_same _ _ _ _ hX
 have hTt : ((w.alloc (.cells #[.slice none 0 0, .slice none 0 0] 116)).setCells w.heap.size 0 [.slice rs rn rc_, .slice ss sn sc_]).there w.heap.size 0 2 := World.there_setCells hX _ _ _
 have B0 : Bel w ((w.alloc (.cells #[.slice none 0 0, .slice none 0 0] 116)).setCells w.heap.size 0 [.slice rs rn rc_, .slice ss sn sc_]) := bel_setsJ _ _ (bl_alloc (bl_refl _) _ _) (Nat.le_refl _)
 have hzT : w.heap.size < ((w.alloc (.cells #[.slice none 0 0, .slice none 0 0] 116)).setCells w.heap.size 0 [.slice rs rn rc_, .slice ss sn sc_]).heap.size := by rw [size_setsJ, World.size_alloc]; omega
 have h1 : ¬ (n : Int) < 0 := by omega
 have h2 : ¬ (64 : Int) < (n : Int) := by omega
 have h00 : 0 < rn → 0 < sn := fun h => by
  have := hch 0 h
  unfold chB mayB at this
  simp only [Bool.and_eq_true, decide_eq_true_eq] at this
  omega
 go_enter Try.func31, Try.ntmps31
 repeat (first | ((with_reducible show Oper.wp _ ⟨_, Op.build 116 _, _, _, _, _⟩ _ _ _ _); refine wp_build 116 _ rfl (.agg #[.slice rs rn rc_, .slice ss sn sc_]) (by kernel_rfl) ?_; simp only [go_sem]) | ((with_reducible show Oper.wp _ ⟨_, Op.store 116 _ _, _, _, _, _⟩ _ _ _ _); refine wp_store_mid (P := Try.prog) 116 _ _ rfl (w.heap.size) (0) #[.slice rs rn rc_, .slice ss sn sc_] rfl rfl hX (by kernel_rfl) (by kernel_rfl) ?_; simp only [go_sem]) | (with_reducible show Oper.wp _ _ _ _ _ _; refine wp_load_mid (P := Try.prog) 116 _ rfl (w.heap.size) 0 rfl [.slice rs rn rc_, .slice ss sn sc_] _ (by with_reducible assumption) Try.underlying116 rfl (by kernel_rfl) ?_; simp only [go_sem]) | (go_at_call 71; (with_reducible refine (check_t rb ro rn rc_ rs Q sb so sn sc_ ss S _ hrs hrc hrm (hr.bel B0) or_ hss hsc hsm (hs.bel B0) os).mono ?_); rintro e w1 ⟨rfl, hb⟩; rw [he]; have B1 := bl_trans B0 hb; have hT1 := rng_bel hT hb; have hTt1 := bel_there hTt hb; have hz1 := Nat.lt_of_lt_of_le hzT hb.size; clear hX hT hTt hzT) | (go_at_call 72; (with_reducible refine (copied_c rb ro rn rc_ rs Q sb so sn sc_ ss S _ hrs hrc hrm (hr.bel B1) or_ hss hsc hsm (hs.bel B1) os hl1 hl2).mono ?_); rintro e w2 ⟨v1, v2, ho1, ho2, rfl, hb2⟩; obtain ⟨gr, rc1, rs1, gs, sc1, ss1, rfl, rfl, p1, p2, p3, p4, p5, p6, p7, p8, p9, hRW, hSt, hthS, z1, z2⟩ := two_blocksc ho1 ho2 h00; have B2 := bl_trans B1 hb2; have hT2 := bel_there hTt1 hb2; have hzw := hb2.size; have hzB := B1.size; have hT3 : (w2.setCells w.heap.size 0 [.slice rs1 rn rc1, .slice ss1 sn sc1]).rangeAt w.heap.size 0 [.slice rs1 rn rc1, .slice ss1 sn sc1] := World.rangeAt_setCells_same _ _ _ _ hT2; have B3 : Bel w (w2.setCells w.heap.size 0 [.slice rs1 rn rc1, .slice ss1 sn sc1]) := bel_setsJ _ _ B2 (Nat.le_refl _); have F3 : Fx [w.heap.size] w2 (w2.setCells w.heap.size 0 [.slice rs1 rn rc1, .slice ss1 sn sc1]) := (Fx.refl _ _).sets (by simp) _ _; have hRW3 := hRW.away F3 (by simp only [List.mem_singleton]; omega); have hSM3 : StM (w2.setCells w.heap.size 0 [.slice rs1 rn rc1, .slice ss1 sn sc1]) gs sn (fun i => tlS (S i)) := StM.away ⟨hthS, S, hSt, fun i hi => RelS.of (os i hi)⟩ F3 (by simp only [List.mem_singleton]; omega); have ngr : gr ∉ [gs] := (by simp only [List.mem_singleton]; exact p9); have nT : w.heap.size ∉ [gr, gs] := (by simp only [List.mem_cons, List.not_mem_nil, or_false]; omega); have hstM : ∀ i, i < sn → stB (tlS (S i)) = true := hst; clear hRW hSt hthS hT1 hTt1) | ((with_reducible show Oper.wp _ ⟨_, Op.store 116 _ _, _, _, _, _⟩ _ _ _ _); refine wp_store_mid (P := Try.prog) 116 _ _ rfl (w.heap.size) (0) #[.slice rs1 rn rc1, .slice ss1 sn sc1] rfl rfl hT2 (by kernel_rfl) (by kernel_rfl) ?_; simp only [go_sem]) | (have zz := hT3; clear zz; with_reducible show Oper.wp _ _ _ _ _ _; refine wp_load_mid (P := Try.prog) 116 _ rfl (w.heap.size) 0 rfl [.slice rs1 rn rc1, .slice ss1 sn sc1] _ (by with_reducible assumption) Try.underlying116 rfl (by kernel_rfl) ?_; simp only [go_sem]) | (go_at_call 73; (with_reducible refine (warm_w gr 0 rn rc1 rs1 Q gs sn sc1 ss1 (fun i => tlS (S i)) _ p1 p2 p3 hRW3.at_ or_ p4 p5 p6 hSM3 p9 hstM hch).mono ?_); rintro e w4 ⟨hSM4, hF4, rfl⟩; have hRW4 := hRW3.away hF4 ngr; have hF5 := hF4.mono2 gr; clear hF4) | go_values | go_skip | go_guarded | go_step | go_upon | go_back | dsimp only)
 go_loopw [30] (fun i wr => ∃ j : Nat, j ≤ n ∧ i = .int .i64 j ∧ Fx [gr, gs] (w2.setCells w.heap.size 0 [.slice rs1 rn rc1, .slice ss1 sn sc1]) wr ∧ RwM wr gr rn (itM Q (fun i => tlS (S i)) rn j).1 ∧ StM wr gs sn (itM Q (fun i => tlS (S i)) rn j).2) (fun i _ => n - (intOf i).toNat)
 case atStart => exact ⟨0, by omega, rfl, hF5, hRW4, hSM4⟩
 case round =>
  obtain ⟨j, hj, rfl, hF, hRM, hSM⟩ := hrel
  have hTr : wr.rangeAt w.heap.size 0 [.slice rs1 rn rc1, .slice ss1 sn sc1] := hF.rng nT hT3
  by_cases hlt : j < n
  ·have hkI : (j : Int) < (n : Int) := by omega
   obtain ⟨i1, i2, i3⟩ := it_inv (M := fun i => tlS (S i)) hch or_ j
   have i4 : ∀ i, i < sn → stB ((itM Q (fun i => tlS (S i)) rn j).2 i) = true := fun i hi => by rw [i3]; exact hst i hi
   repeat (first | (with_reducible show Oper.wp _ _ _ _ _ _; refine wp_load_mid (P := Try.prog) 116 _ rfl (w.heap.size) 0 rfl [.slice rs1 rn rc1, .slice ss1 sn sc1] _ (by with_reducible assumption) Try.underlying116 rfl (by kernel_rfl) ?_; simp only [go_sem]) | (go_at_call 74; (with_reducible refine (round_w gr rn rc1 rs1 _ gs sn sc1 ss1 _ _ p1 p2 p3 hRM i2 p4 p5 p6 hSM p9 i4 i1).mono ?_); rintro e w6 ⟨hR6, hS6, hF6, rfl⟩) | go_values | go_skip | go_guarded | go_step | go_upon | go_back | dsimp only)
   exact ⟨⟨j + 1, by omega, by go_num, hF.trans hF6, hR6, hS6⟩, by simp [intOf]; omega⟩
  ·have hkn : j = n := by omega
   subst hkn
   have t0 : wr.cell? ⟨w.heap.size, 0, none⟩ = some (.slice rs1 rn rc1) := hTr 0 _ rfl
   have t1 : wr.cell? ⟨w.heap.size, 1, none⟩ = some (.slice ss1 sn sc1) := hTr 1 _ rfl
   repeat (first | go_values | go_skip | go_guarded | go_step | go_upon | go_back | dsimp only)
   have BN := belBy_some wr
   replace t0 := belBy_cell (W := wr) t0
   replace t1 := belBy_cell (W := wr) t1
   refine wp_region_quiet_bel (by kernel_rfl) (by kernel_rfl) ?_
   repeat (go_big_quiet_step (fail))
   refine wpQuiet_nil ?_
   rintro _ ⟨pW, rfl⟩
   repeat (first | go_values | go_skip | go_guarded | go_step | go_upon | go_back | dsimp only)
   refine bodyPost_ret (v := .tuple #[.slice rs1 rn rc1, .slice ss1 sn sc1, .int .i64 0]) (by kernel_rfl) rfl ?_
   have q0 : Bel w pW.world := bl_trans (hF.bel B3 (fun k hk => by simp only [List.mem_cons, List.not_mem_nil, or_false] at hk; rcases hk with rfl | rfl <;> omega)) pW.h
   have q1 : AllC w pW.world (.slice rs1 rn rc1) (.slice ss1 sn sc1) rn sn (itM Q (fun i => tlS (S i)) rn j).1 (itM Q (fun i => tlS (S i)) rn j).2 := ⟨gr, rc1, rs1, gs, sc1, ss1, rfl, rfl, p1, p2, p3, p4, p5, p6, by omega, by omega, p9, hRM.bel pW.h, hSM.bel pW.h, by rcases z1 with z | ⟨z, y⟩; exact .inl z; exact .inr ⟨z, bel_there (hF.thr _ _ _ (F3.thr _ _ _ y)) pW.h⟩, by rcases z2 with z | ⟨z, y⟩; exact .inl z; exact .inr ⟨z, bel_there (hF.thr _ _ _ (F3.thr _ _ _ y)) pW.h⟩⟩
   first | exact ⟨_, _, q1, rfl, q0⟩ | exact ⟨_, q1, rfl, q0⟩

end Go.Proofs.Ytfohggiehbplkaa
