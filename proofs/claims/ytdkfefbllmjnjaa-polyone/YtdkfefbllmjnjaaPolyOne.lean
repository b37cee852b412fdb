/-
  'tumblelaw06.PolyOne' is true of all rows of points.
-/
import Derived.Test.YtdkfefbllmjnjaaRows
import Derived.Test.YtdkfefbllmjnjaaPr
import Derived.Test.YtdkfefbllmjnjaaRx
import Derived.WalkKit
import Derived.ProofKit
import Derived.OpenShut
import Derived.WalkLawsBesides
import Derived.WalkSpells
import Derived.Lib.SmallJoins
import Derived.Laws.Cover2
import Derived.Laws.AppendOwn
import Derived.Laws.OwnMore
import Derived.Laws.AppendOwnNone
import Derived.Deep.RegionHeld3
import Derived.Deep.RegionWith
import Derived.Deep.SlicePairs
import Derived.SizedLaws
import Derived.Below
import Derived.Laws.StructEq
namespace Go.Proofs.Ytdkfefbllmjnjaa.polyOne
open Go.ChangeShapes Go.WideShapes Go.ChangeAt Go.RowKit Go.Joins
set_option linter.unusedVariables false
set_option linter.unusedSimpArgs false

theorem own : ownKnob Try.prog.godebug = none := by kernel_rfl
theorem laidOut : laidOutB Try.prog = true := by kernel_rfl
theorem wf_f64 {x : Nat} (h : (Lit.float .f64 x).wf = true) : okK .f64 x := by
  rw [okK64]; simpa [Lit.wf] using h
theorem trod_fl {H : Type} {enc : TypeId × Value → H} {P : Program} {w : World} {base fuel : Nat} {spare : Nat → Bool} {held : Bool} {t : TypeId} {cs : List Value} {x : DataW H × List MemPlace} {k : FloatKind} (ht : P.underlying t = some (.float k)) (h : DataW.trod enc P w base spare held fuel t cs = some x) : ∃ z, cs = [.float k z] ∧ x = (.lit (.float k z), []) ∧ (Lit.float k z).wf = true := by
  cases fuel with
  | zero => simp [DataW.trod] at h
  | succ n =>
    unfold DataW.trod at h
    rw [ht] at h
    split at h <;> simp_all

theorem cellsV : Try.prog.cellsOf 24 = 2 := by kernel_rfl
theorem lent_is {w w0 : World} {g c n : Nat} {V : Value} {xs ys : Nat → Nat} (h : Lent w g c n xs ys) (hV : AnyS w0 V n xs ys) : AnyS w (.slice (some ⟨g, 0, none⟩) n c) n xs ys := by
  obtain ⟨a, cap, _, h2, h3, h4, h5, _⟩ := hV
  refine ⟨_, _, rfl, by have := h.1; omega, h3, h4, h5, ?_⟩
  rcases Nat.eq_zero_or_pos n with h0 | h0
  · exact .inl h0
  · exact .inr ⟨h0, g, 0, rfl, h.2.2.1⟩
theorem lent_mo {w w' : World} {g c n b : Nat} {xs ys : Nat → Nat} (h : Lent w g c n xs ys) (m : Mo b w w') (hne : g ≠ b) : Lent w' g c n xs ys :=
  ⟨h.1, h.2.1, m.sl h.2.2.1 hne, (m.cell g _ (World.block_lt_of_cell? _ _ h.2.2.2.1) hne).trans h.2.2.2.1, (m.cell g _ (World.block_lt_of_cell? _ _ h.2.2.2.1) hne).trans h.2.2.2.2⟩
set_option maxRecDepth 100000 in
set_option maxHeartbeats 16000000 in
theorem walk_any (V : Value) (n : Nat) (xs ys : Nat → Nat) (p q : Nat) (op : okK .f64 p) (oq : okK .f64 q) (a b : Nat) (oa : okK .f64 a) (ob : okK .f64 b) (w : World) (hV : AnyS w V n xs ys) : Calls Try.prog 4 #[V, .agg #[.float .f64 p, .float .f64 q], .agg #[.float .f64 a, .float .f64 b]] w fun e w' => e = .returned (.bool true) ∧ Bel w w' := by
  have B0 : Bel w ((w.alloc (.cells #[.float .f64 p, .float .f64 q] 24)).alloc (.cells #[.float .f64 a, .float .f64 b] 24)) := bl_alloc (bl_alloc (bl_refl w) _ _) _ _
  have b0 : ((w.alloc (.cells #[.float .f64 p, .float .f64 q] 24)).alloc (.cells #[.float .f64 a, .float .f64 b] 24)).cell? ⟨w.heap.size, 0, none⟩ = some (.float .f64 p) := up_alloc (cell_own rfl _ _ _).1
  have b1 : ((w.alloc (.cells #[.float .f64 p, .float .f64 q] 24)).alloc (.cells #[.float .f64 a, .float .f64 b] 24)).cell? ⟨w.heap.size, 1, none⟩ = some (.float .f64 q) := up_alloc (cell_own rfl _ _ _).2
  have b2 : ((w.alloc (.cells #[.float .f64 p, .float .f64 q] 24)).alloc (.cells #[.float .f64 a, .float .f64 b] 24)).cell? ⟨w.heap.size + 1, 0, none⟩ = some (.float .f64 a) := (cell_own (by simp) _ _ _).1
  have b3 : ((w.alloc (.cells #[.float .f64 p, .float .f64 q] 24)).alloc (.cells #[.float .f64 a, .float .f64 b] 24)).cell? ⟨w.heap.size + 1, 1, none⟩ = some (.float .f64 b) := (cell_own (by simp) _ _ _).2
  by_cases hch : chkE xs ys n = 0
  · have hok : 3 ≤ n ∧ n ≤ 64 := by
      obtain ⟨_, _, _, _, _, _, o5, _⟩ := hV
      obtain ⟨_, h3, h64, _⟩ := chk_ok o5 hch
      exact ⟨h3, h64⟩
    obtain ⟨h3, h64⟩ := hok
    go_enter Try.func4, Try.ntmps4
    go_wp2_with (first | (have zn := m5; clear zn; go_at_call 23; refine (normals_yes _ n xs ys _ (lent_is hL hV) hch).mono ?_; rintro e w' ⟨r3, rfl, hb, hr3, hN3⟩; replace Bc := bl_trans Bc hb; replace b0 := keep hb b0; replace b1 := keep hb b1; replace b2 := keep hb b2; replace b3 := keep hb b3; (try replace hL := hL.bel hb); (try (replace kc0 := keep hb kc0; replace kc1 := keep hb kc1)); (try (replace kd0 := keep hb kd0; replace kd1 := keep hb kd1)); (try replace hN := hN.bel hb); (try replace hM := hM.bel hb)) | (have zn := m5; clear zn; go_at_call 33; refine (same_eq r3 0 n g2 0 c2 n (nX xs ys n) (nY xs ys n) _ hN3 hM (by unfold maxLen; omega) (Nat.le_refl _) hc2).mono ?_; rintro e w' ⟨rfl, hb⟩; replace Bc := bl_trans Bc hb; replace b0 := keep hb b0; replace b1 := keep hb b1; replace b2 := keep hb b2; replace b3 := keep hb b3; (try replace hL := hL.bel hb); (try (replace kc0 := keep hb kc0; replace kc1 := keep hb kc1)); (try (replace kd0 := keep hb kd0; replace kd1 := keep hb kd1)); (try replace hN := hN.bel hb); (try replace hM := hM.bel hb)) | (go_at_call 17; refine (awake_any _).mono ?_; rintro e w' ⟨rfl, hb⟩; have Bc := bl_trans B0 hb; replace b0 := keep hb b0; replace b1 := keep hb b1; replace b2 := keep hb b2; replace b3 := keep hb b3) | (go_at_call 18; refine (lent_any V n xs ys _ (hV.bel Bc)).mono ?_; rintro e w' ⟨g1, c1, rfl, hg1, hL0, hb⟩; replace Bc := bl_trans Bc hb; replace b0 := keep hb b0; replace b1 := keep hb b1; replace b2 := keep hb b2; replace b3 := keep hb b3; have hL := hL0; clear hL0; have hlt1 : g1 < w'.heap.size := World.block_lt_of_cell? _ _ hL.2.2.2.1) | (go_at_call 19; refine (area_all _ n xs ys _ (lent_is hL hV)).mono ?_; rintro e w' ⟨rfl, hb⟩; replace Bc := bl_trans Bc hb; replace b0 := keep hb b0; replace b1 := keep hb b1; replace b2 := keep hb b2; replace b3 := keep hb b3; (try replace hL := hL.bel hb); (try (replace kc0 := keep hb kc0; replace kc1 := keep hb kc1)); (try (replace kd0 := keep hb kd0; replace kd1 := keep hb kd1)); (try replace hN := hN.bel hb); (try replace hM := hM.bel hb)) | (go_at_call 20; refine (rarea_all V n xs ys _ (hV.bel Bc)).mono ?_; rintro e w' ⟨rfl, hb⟩; replace Bc := bl_trans Bc hb; replace b0 := keep hb b0; replace b1 := keep hb b1; replace b2 := keep hb b2; replace b3 := keep hb b3; (try replace hL := hL.bel hb); (try (replace kc0 := keep hb kc0; replace kc1 := keep hb kc1)); (try (replace kd0 := keep hb kd0; replace kd1 := keep hb kd1)); (try replace hN := hN.bel hb); (try replace hM := hM.bel hb)) | (go_at_call 21; refine (centre_all _ n xs ys _ (lent_is hL hV)).mono ?_; rintro e w' ⟨rfl, hb⟩; replace Bc := bl_trans Bc hb; replace b0 := keep hb b0; replace b1 := keep hb b1; replace b2 := keep hb b2; replace b3 := keep hb b3; (try replace hL := hL.bel hb); (try (replace kc0 := keep hb kc0; replace kc1 := keep hb kc1)); (try (replace kd0 := keep hb kd0; replace kd1 := keep hb kd1)); (try replace hN := hN.bel hb); (try replace hM := hM.bel hb); obtain ⟨kc0, kc1⟩ := cell_own (W := w') (n := w'.heap.size) rfl (.float .f64 (cenX xs ys n)) (.float .f64 (cenY xs ys n)) 24; replace hb := bl_alloc (bl_refl w') #[.float .f64 (cenX xs ys n), .float .f64 (cenY xs ys n)] 24; replace Bc := bl_trans Bc hb; replace b0 := keep hb b0; replace b1 := keep hb b1; replace b2 := keep hb b2; replace b3 := keep hb b3; (try replace hL := hL.bel hb); (try (replace kd0 := keep hb kd0; replace kd1 := keep hb kd1)); (try replace hN := hN.bel hb); (try replace hM := hM.bel hb)) | (go_at_call 22; refine (rcentre_all V n xs ys _ (hV.bel Bc)).mono ?_; rintro e w' ⟨rfl, hb⟩; replace Bc := bl_trans Bc hb; replace b0 := keep hb b0; replace b1 := keep hb b1; replace b2 := keep hb b2; replace b3 := keep hb b3; (try replace hL := hL.bel hb); (try (replace kc0 := keep hb kc0; replace kc1 := keep hb kc1)); (try (replace kd0 := keep hb kd0; replace kd1 := keep hb kd1)); (try replace hN := hN.bel hb); (try replace hM := hM.bel hb); obtain ⟨kd0, kd1⟩ := cell_own (W := w') (n := w'.heap.size) rfl (.float .f64 (cenX xs ys n)) (.float .f64 (cenY xs ys n)) 24; replace hb := bl_alloc (bl_refl w') #[.float .f64 (cenX xs ys n), .float .f64 (cenY xs ys n)] 24; replace Bc := bl_trans Bc hb; replace b0 := keep hb b0; replace b1 := keep hb b1; replace b2 := keep hb b2; replace b3 := keep hb b3; (try replace hL := hL.bel hb); (try (replace kc0 := keep hb kc0; replace kc1 := keep hb kc1)); (try replace hN := hN.bel hb); (try replace hM := hM.bel hb)) | (go_at_call 25; refine (has_all _ n xs ys _ (lent_is hL hV) p q op oq).mono ?_; rintro e w' ⟨rfl, hb⟩; replace Bc := bl_trans Bc hb; replace b0 := keep hb b0; replace b1 := keep hb b1; replace b2 := keep hb b2; replace b3 := keep hb b3; (try replace hL := hL.bel hb); (try (replace kc0 := keep hb kc0; replace kc1 := keep hb kc1)); (try (replace kd0 := keep hb kd0; replace kd1 := keep hb kd1)); (try replace hN := hN.bel hb); (try replace hM := hM.bel hb)) | (go_at_call 26; refine (rhas_all V n xs ys _ (hV.bel Bc) p q op oq).mono ?_; rintro e w' ⟨rfl, hb⟩; replace Bc := bl_trans Bc hb; replace b0 := keep hb b0; replace b1 := keep hb b1; replace b2 := keep hb b2; replace b3 := keep hb b3; (try replace hL := hL.bel hb); (try (replace kc0 := keep hb kc0; replace kc1 := keep hb kc1)); (try (replace kd0 := keep hb kd0; replace kd1 := keep hb kd1)); (try replace hN := hN.bel hb); (try replace hM := hM.bel hb)) | (go_at_call 27; refine (far_all _ n xs ys _ (lent_is hL hV) a b oa ob).mono ?_; rintro e w' ⟨rfl, hb⟩; replace Bc := bl_trans Bc hb; replace b0 := keep hb b0; replace b1 := keep hb b1; replace b2 := keep hb b2; replace b3 := keep hb b3; (try replace hL := hL.bel hb); (try (replace kc0 := keep hb kc0; replace kc1 := keep hb kc1)); (try (replace kd0 := keep hb kd0; replace kd1 := keep hb kd1)); (try replace hN := hN.bel hb); (try replace hM := hM.bel hb)) | (go_at_call 28; refine (rfar_all V n xs ys _ (hV.bel Bc) a b oa ob).mono ?_; rintro e w' ⟨rfl, hb⟩; replace Bc := bl_trans Bc hb; replace b0 := keep hb b0; replace b1 := keep hb b1; replace b2 := keep hb b2; replace b3 := keep hb b3; (try replace hL := hL.bel hb); (try (replace kc0 := keep hb kc0; replace kc1 := keep hb kc1)); (try (replace kd0 := keep hb kd0; replace kd1 := keep hb kd1)); (try replace hN := hN.bel hb); (try replace hM := hM.bel hb)) | (go_at_call 29; refine (chk_all _ n xs ys _ (lent_is hL hV)).mono ?_; rintro e w' ⟨rfl, hb⟩; replace Bc := bl_trans Bc hb; replace b0 := keep hb b0; replace b1 := keep hb b1; replace b2 := keep hb b2; replace b3 := keep hb b3; (try replace hL := hL.bel hb); (try (replace kc0 := keep hb kc0; replace kc1 := keep hb kc1)); (try (replace kd0 := keep hb kd0; replace kd1 := keep hb kd1)); (try replace hN := hN.bel hb); (try replace hM := hM.bel hb)) | (go_at_call 30; refine (rchk_any V n xs ys _ (hV.bel Bc)).mono ?_; rintro e w' ⟨rfl, hb⟩; replace Bc := bl_trans Bc hb; replace b0 := keep hb b0; replace b1 := keep hb b1; replace b2 := keep hb b2; replace b3 := keep hb b3; (try replace hL := hL.bel hb); (try (replace kc0 := keep hb kc0; replace kc1 := keep hb kc1)); (try (replace kd0 := keep hb kd0; replace kd1 := keep hb kd1)); (try replace hN := hN.bel hb); (try replace hM := hM.bel hb)) | (go_at_call 31; refine (rIs_any _ _ _).mono ?_; rintro e w6 ⟨rfl, hw6⟩; rw [hw6, smK_self]) | (go_at_call 32; refine (rSame_eq _ _ _).mono ?_; rintro e w' ⟨rfl, hb⟩; replace Bc := bl_trans Bc hb; replace b0 := keep hb b0; replace b1 := keep hb b1; replace b2 := keep hb b2; replace b3 := keep hb b3; (try replace hL := hL.bel hb); (try (replace kc0 := keep hb kc0; replace kc1 := keep hb kc1)); (try (replace kd0 := keep hb kd0; replace kd1 := keep hb kd1)); (try replace hN := hN.bel hb); (try replace hM := hM.bel hb)) | (go_at_call 35; refine (kept_any g1 c1 n V xs ys _ hL (hV.bel Bc)).mono ?_; rintro e w' ⟨rfl, hb⟩; replace Bc := bl_trans Bc hb; replace b0 := keep hb b0; replace b1 := keep hb b1; replace b2 := keep hb b2; replace b3 := keep hb b3; (try replace hL := hL.bel hb); (try (replace kc0 := keep hb kc0; replace kc1 := keep hb kc1)); (try (replace kd0 := keep hb kd0; replace kd1 := keep hb kd1)); (try replace hN := hN.bel hb); (try replace hM := hM.bel hb)) | (go_at_call 23; have hpre := Bc.size; refine (normals_yes _ n xs ys _ (lent_is hL hV) hch).mono ?_; rintro e w' ⟨r1, rfl, hb, hr1, hN0⟩; have hg1r : g1 < r1 := Nat.lt_of_lt_of_le (World.block_lt_of_cell? _ _ hL.2.2.2.1) hr1; have kcr := Nat.lt_of_lt_of_le (World.block_lt_of_cell? _ _ kc0) hr1; have kdr := Nat.lt_of_lt_of_le (World.block_lt_of_cell? _ _ kd0) hr1; have b2r := Nat.lt_of_lt_of_le (World.block_lt_of_cell? _ _ b2) hr1; simp only at kcr kdr b2r; replace Bc := bl_trans Bc hb; replace b0 := keep hb b0; replace b1 := keep hb b1; replace b2 := keep hb b2; replace b3 := keep hb b3; (try replace hL := hL.bel hb); (try (replace kc0 := keep hb kc0; replace kc1 := keep hb kc1)); (try (replace kd0 := keep hb kd0; replace kd1 := keep hb kd1)); (try replace hN := hN.bel hb); (try replace hM := hM.bel hb); have hN := hN0; clear hN0; have hfr : Hid (∀ o, w'.frozen? ⟨r1, o, none⟩ = false) := hide (fun o => (hb.2 _).trans (fresh_frozen hr1)); have BN := bl_refl w'; have hr1l := hN.lt (by omega); have hwr := Nat.le_trans hpre hr1) | (go_at_call 24; refine (rnormals_yes V n xs ys _ (hV.bel Bc) hch).mono ?_; rintro e w' ⟨v, rfl, hO, hb⟩; obtain ⟨g2, c2, rfl, hg2, hc2, _, hM0, _⟩ := hO.get (by rw [lst_len]; omega); simp only [lst_len] at hc2 hM0 ⊢; have hM := hM0.eq (lst_x _ _ _) (lst_y _ _ _); clear hM0 hO; replace Bc := bl_trans Bc hb; replace b0 := keep hb b0; replace b1 := keep hb b1; replace b2 := keep hb b2; replace b3 := keep hb b3; (try replace hL := hL.bel hb); (try (replace kc0 := keep hb kc0; replace kc1 := keep hb kc1)); (try (replace kd0 := keep hb kd0; replace kd1 := keep hb kd1)); (try replace hN := hN.bel hb); have hg2r : r1 < g2 := Nat.lt_of_lt_of_le hr1l hg2; have m4 := hide True.intro) | (go_at_call 33; refine (same_eq r1 0 n g2 0 c2 n (nX xs ys n) (nY xs ys n) _ hN hM (by unfold maxLen; omega) (Nat.le_refl _) hc2).mono ?_; rintro e w' ⟨rfl, hb⟩; replace Bc := bl_trans Bc hb; replace b0 := keep hb b0; replace b1 := keep hb b1; replace b2 := keep hb b2; replace b3 := keep hb b3; (try replace hL := hL.bel hb); (try (replace kc0 := keep hb kc0; replace kc1 := keep hb kc1)); (try (replace kd0 := keep hb kd0; replace kd1 := keep hb kd1)); (try replace hN := hN.bel hb); (try replace hM := hM.bel hb)) | (go_at_call 34; refine (spoil_full r1 n (nX xs ys n) (nY xs ys n) _ hN (by omega) (by omega) (fun o => (Bc.2 _).trans (fresh_frozen hwr))).mono ?_; rintro e w' ⟨rfl, hm⟩; replace Bc := hm.bel w Bc hwr; replace hL := lent_mo hL hm (by omega); replace hM := hm.sl hM (by omega); clear hN; replace b0 := (hm.cell w.heap.size 0 (World.block_lt_of_cell? _ _ b0) (by omega)).trans b0; replace b1 := (hm.cell w.heap.size 1 (World.block_lt_of_cell? _ _ b1) (by omega)).trans b1; replace b2 := (hm.cell (w.heap.size + 1) 0 (World.block_lt_of_cell? _ _ b2) (by omega)).trans b2; replace b3 := (hm.cell (w.heap.size + 1) 1 (World.block_lt_of_cell? _ _ b3) (by omega)).trans b3; clear kc0 kc1 kd0 kd1; have m5 := hide True.intro))
    go_ret
    exact ⟨rfl, Bc⟩
  · go_enter Try.func4, Try.ntmps4
    go_wp2_with (first | (have zn := m5; clear zn; go_at_call 23; refine (normals_no _ n xs ys _ (lent_is hL hV) hch).mono ?_; rintro e w' ⟨rfl, hb⟩; replace Bc := bl_trans Bc hb; replace b0 := keep hb b0; replace b1 := keep hb b1; replace b2 := keep hb b2; replace b3 := keep hb b3; (try replace hL := hL.bel hb); (try (replace kc0 := keep hb kc0; replace kc1 := keep hb kc1)); (try (replace kd0 := keep hb kd0; replace kd1 := keep hb kd1)); (try replace hN := hN.bel hb); (try replace hM := hM.bel hb)) | (have zn := m5; clear zn; go_at_call 33; refine (same_nil _ _ _ _ _).mono ?_; rintro e w' ⟨rfl, hb⟩; replace Bc := bl_trans Bc hb; replace b0 := keep hb b0; replace b1 := keep hb b1; replace b2 := keep hb b2; replace b3 := keep hb b3; (try replace hL := hL.bel hb); (try (replace kc0 := keep hb kc0; replace kc1 := keep hb kc1)); (try (replace kd0 := keep hb kd0; replace kd1 := keep hb kd1)); (try replace hN := hN.bel hb); (try replace hM := hM.bel hb)) | (go_at_call 17; refine (awake_any _).mono ?_; rintro e w' ⟨rfl, hb⟩; have Bc := bl_trans B0 hb; replace b0 := keep hb b0; replace b1 := keep hb b1; replace b2 := keep hb b2; replace b3 := keep hb b3) | (go_at_call 18; refine (lent_any V n xs ys _ (hV.bel Bc)).mono ?_; rintro e w' ⟨g1, c1, rfl, hg1, hL0, hb⟩; replace Bc := bl_trans Bc hb; replace b0 := keep hb b0; replace b1 := keep hb b1; replace b2 := keep hb b2; replace b3 := keep hb b3; have hL := hL0; clear hL0; have hlt1 : g1 < w'.heap.size := World.block_lt_of_cell? _ _ hL.2.2.2.1) | (go_at_call 19; refine (area_all _ n xs ys _ (lent_is hL hV)).mono ?_; rintro e w' ⟨rfl, hb⟩; replace Bc := bl_trans Bc hb; replace b0 := keep hb b0; replace b1 := keep hb b1; replace b2 := keep hb b2; replace b3 := keep hb b3; (try replace hL := hL.bel hb); (try (replace kc0 := keep hb kc0; replace kc1 := keep hb kc1)); (try (replace kd0 := keep hb kd0; replace kd1 := keep hb kd1)); (try replace hN := hN.bel hb); (try replace hM := hM.bel hb)) | (go_at_call 20; refine (rarea_all V n xs ys _ (hV.bel Bc)).mono ?_; rintro e w' ⟨rfl, hb⟩; replace Bc := bl_trans Bc hb; replace b0 := keep hb b0; replace b1 := keep hb b1; replace b2 := keep hb b2; replace b3 := keep hb b3; (try replace hL := hL.bel hb); (try (replace kc0 := keep hb kc0; replace kc1 := keep hb kc1)); (try (replace kd0 := keep hb kd0; replace kd1 := keep hb kd1)); (try replace hN := hN.bel hb); (try replace hM := hM.bel hb)) | (go_at_call 21; refine (centre_all _ n xs ys _ (lent_is hL hV)).mono ?_; rintro e w' ⟨rfl, hb⟩; replace Bc := bl_trans Bc hb; replace b0 := keep hb b0; replace b1 := keep hb b1; replace b2 := keep hb b2; replace b3 := keep hb b3; (try replace hL := hL.bel hb); (try (replace kc0 := keep hb kc0; replace kc1 := keep hb kc1)); (try (replace kd0 := keep hb kd0; replace kd1 := keep hb kd1)); (try replace hN := hN.bel hb); (try replace hM := hM.bel hb); obtain ⟨kc0, kc1⟩ := cell_own (W := w') (n := w'.heap.size) rfl (.float .f64 (cenX xs ys n)) (.float .f64 (cenY xs ys n)) 24; replace hb := bl_alloc (bl_refl w') #[.float .f64 (cenX xs ys n), .float .f64 (cenY xs ys n)] 24; replace Bc := bl_trans Bc hb; replace b0 := keep hb b0; replace b1 := keep hb b1; replace b2 := keep hb b2; replace b3 := keep hb b3; (try replace hL := hL.bel hb); (try (replace kd0 := keep hb kd0; replace kd1 := keep hb kd1)); (try replace hN := hN.bel hb); (try replace hM := hM.bel hb)) | (go_at_call 22; refine (rcentre_all V n xs ys _ (hV.bel Bc)).mono ?_; rintro e w' ⟨rfl, hb⟩; replace Bc := bl_trans Bc hb; replace b0 := keep hb b0; replace b1 := keep hb b1; replace b2 := keep hb b2; replace b3 := keep hb b3; (try replace hL := hL.bel hb); (try (replace kc0 := keep hb kc0; replace kc1 := keep hb kc1)); (try (replace kd0 := keep hb kd0; replace kd1 := keep hb kd1)); (try replace hN := hN.bel hb); (try replace hM := hM.bel hb); obtain ⟨kd0, kd1⟩ := cell_own (W := w') (n := w'.heap.size) rfl (.float .f64 (cenX xs ys n)) (.float .f64 (cenY xs ys n)) 24; replace hb := bl_alloc (bl_refl w') #[.float .f64 (cenX xs ys n), .float .f64 (cenY xs ys n)] 24; replace Bc := bl_trans Bc hb; replace b0 := keep hb b0; replace b1 := keep hb b1; replace b2 := keep hb b2; replace b3 := keep hb b3; (try replace hL := hL.bel hb); (try (replace kc0 := keep hb kc0; replace kc1 := keep hb kc1)); (try replace hN := hN.bel hb); (try replace hM := hM.bel hb)) | (go_at_call 25; refine (has_all _ n xs ys _ (lent_is hL hV) p q op oq).mono ?_; rintro e w' ⟨rfl, hb⟩; replace Bc := bl_trans Bc hb; replace b0 := keep hb b0; replace b1 := keep hb b1; replace b2 := keep hb b2; replace b3 := keep hb b3; (try replace hL := hL.bel hb); (try (replace kc0 := keep hb kc0; replace kc1 := keep hb kc1)); (try (replace kd0 := keep hb kd0; replace kd1 := keep hb kd1)); (try replace hN := hN.bel hb); (try replace hM := hM.bel hb)) | (go_at_call 26; refine (rhas_all V n xs ys _ (hV.bel Bc) p q op oq).mono ?_; rintro e w' ⟨rfl, hb⟩; replace Bc := bl_trans Bc hb; replace b0 := keep hb b0; replace b1 := keep hb b1; replace b2 := keep hb b2; replace b3 := keep hb b3; (try replace hL := hL.bel hb); (try (replace kc0 := keep hb kc0; replace kc1 := keep hb kc1)); (try (replace kd0 := keep hb kd0; replace kd1 := keep hb kd1)); (try replace hN := hN.bel hb); (try replace hM := hM.bel hb)) | (go_at_call 27; refine (far_all _ n xs ys _ (lent_is hL hV) a b oa ob).mono ?_; rintro e w' ⟨rfl, hb⟩; replace Bc := bl_trans Bc hb; replace b0 := keep hb b0; replace b1 := keep hb b1; replace b2 := keep hb b2; replace b3 := keep hb b3; (try replace hL := hL.bel hb); (try (replace kc0 := keep hb kc0; replace kc1 := keep hb kc1)); (try (replace kd0 := keep hb kd0; replace kd1 := keep hb kd1)); (try replace hN := hN.bel hb); (try replace hM := hM.bel hb)) | (go_at_call 28; refine (rfar_all V n xs ys _ (hV.bel Bc) a b oa ob).mono ?_; rintro e w' ⟨rfl, hb⟩; replace Bc := bl_trans Bc hb; replace b0 := keep hb b0; replace b1 := keep hb b1; replace b2 := keep hb b2; replace b3 := keep hb b3; (try replace hL := hL.bel hb); (try (replace kc0 := keep hb kc0; replace kc1 := keep hb kc1)); (try (replace kd0 := keep hb kd0; replace kd1 := keep hb kd1)); (try replace hN := hN.bel hb); (try replace hM := hM.bel hb)) | (go_at_call 29; refine (chk_all _ n xs ys _ (lent_is hL hV)).mono ?_; rintro e w' ⟨rfl, hb⟩; replace Bc := bl_trans Bc hb; replace b0 := keep hb b0; replace b1 := keep hb b1; replace b2 := keep hb b2; replace b3 := keep hb b3; (try replace hL := hL.bel hb); (try (replace kc0 := keep hb kc0; replace kc1 := keep hb kc1)); (try (replace kd0 := keep hb kd0; replace kd1 := keep hb kd1)); (try replace hN := hN.bel hb); (try replace hM := hM.bel hb)) | (go_at_call 30; refine (rchk_any V n xs ys _ (hV.bel Bc)).mono ?_; rintro e w' ⟨rfl, hb⟩; replace Bc := bl_trans Bc hb; replace b0 := keep hb b0; replace b1 := keep hb b1; replace b2 := keep hb b2; replace b3 := keep hb b3; (try replace hL := hL.bel hb); (try (replace kc0 := keep hb kc0; replace kc1 := keep hb kc1)); (try (replace kd0 := keep hb kd0; replace kd1 := keep hb kd1)); (try replace hN := hN.bel hb); (try replace hM := hM.bel hb)) | (go_at_call 31; refine (rIs_any _ _ _).mono ?_; rintro e w6 ⟨rfl, hw6⟩; rw [hw6, smK_self]) | (go_at_call 32; refine (rSame_eq _ _ _).mono ?_; rintro e w' ⟨rfl, hb⟩; replace Bc := bl_trans Bc hb; replace b0 := keep hb b0; replace b1 := keep hb b1; replace b2 := keep hb b2; replace b3 := keep hb b3; (try replace hL := hL.bel hb); (try (replace kc0 := keep hb kc0; replace kc1 := keep hb kc1)); (try (replace kd0 := keep hb kd0; replace kd1 := keep hb kd1)); (try replace hN := hN.bel hb); (try replace hM := hM.bel hb)) | (go_at_call 35; refine (kept_any g1 c1 n V xs ys _ hL (hV.bel Bc)).mono ?_; rintro e w' ⟨rfl, hb⟩; replace Bc := bl_trans Bc hb; replace b0 := keep hb b0; replace b1 := keep hb b1; replace b2 := keep hb b2; replace b3 := keep hb b3; (try replace hL := hL.bel hb); (try (replace kc0 := keep hb kc0; replace kc1 := keep hb kc1)); (try (replace kd0 := keep hb kd0; replace kd1 := keep hb kd1)); (try replace hN := hN.bel hb); (try replace hM := hM.bel hb)) | (go_at_call 23; refine (normals_no _ n xs ys _ (lent_is hL hV) hch).mono ?_; rintro e w' ⟨rfl, hb⟩; replace Bc := bl_trans Bc hb; replace b0 := keep hb b0; replace b1 := keep hb b1; replace b2 := keep hb b2; replace b3 := keep hb b3; (try replace hL := hL.bel hb); (try (replace kc0 := keep hb kc0; replace kc1 := keep hb kc1)); (try (replace kd0 := keep hb kd0; replace kd1 := keep hb kd1)); (try replace hN := hN.bel hb); (try replace hM := hM.bel hb)) | (go_at_call 24; refine (rnormals_no V n xs ys _ (hV.bel Bc) hch).mono ?_; rintro e w' ⟨rfl, hb⟩; replace Bc := bl_trans Bc hb; replace b0 := keep hb b0; replace b1 := keep hb b1; replace b2 := keep hb b2; replace b3 := keep hb b3; (try replace hL := hL.bel hb); (try (replace kc0 := keep hb kc0; replace kc1 := keep hb kc1)); (try (replace kd0 := keep hb kd0; replace kd1 := keep hb kd1)); (try replace hN := hN.bel hb); (try replace hM := hM.bel hb)) | (go_at_call 33; refine (same_nil _ _ _ _ _).mono ?_; rintro e w' ⟨rfl, hb⟩; replace Bc := bl_trans Bc hb; replace b0 := keep hb b0; replace b1 := keep hb b1; replace b2 := keep hb b2; replace b3 := keep hb b3; (try replace hL := hL.bel hb); (try (replace kc0 := keep hb kc0; replace kc1 := keep hb kc1)); (try (replace kd0 := keep hb kd0; replace kd1 := keep hb kd1)); (try replace hN := hN.bel hb); (try replace hM := hM.bel hb)) | (go_at_call 34; refine (spoil_nil _).mono ?_; rintro e w' ⟨rfl, hb⟩; replace Bc := bl_trans Bc hb; replace b0 := keep hb b0; replace b1 := keep hb b1; replace b2 := keep hb b2; replace b3 := keep hb b3; (try replace hL := hL.bel hb); (try (replace kc0 := keep hb kc0; replace kc1 := keep hb kc1)); (try (replace kd0 := keep hb kd0; replace kd1 := keep hb kd1)); (try replace hN := hN.bel hb); (try replace hM := hM.bel hb); have m5 := hide True.intro))
    go_ret
    exact ⟨rfl, Bc⟩

/-- a row of ways: none, or len of them in cells, with room for cap -/
def IsWays (w : World) (a : Option Addr) (len cap : Nat) : Prop :=
  (a = none ∧ len = 0 ∧ cap = 0) ∨ ∃ (x : Addr) (xs ys : Nat → Nat), a = some x ∧ len ≤ cap ∧ cap ≤ maxLen ∧ len * 16 ≤ 140737488351232 ∧ ∀ i, i < len → w.cell? (x.add (i * 2)) = some (.float .f64 (xs i)) ∧ w.cell? (x.add (i * 2 + 1)) = some (.float .f64 (ys i)) ∧ okK .f64 (xs i) ∧ okK .f64 (ys i)
theorem any_of {w : World} {a : Option Addr} {len cap : Nat} (h : IsWays w a len cap) : ∃ xs ys, AnyS w (.slice a len cap) len xs ys := by
  rcases h with ⟨rfl, rfl, rfl⟩ | ⟨x, xs, ys, rfl, hl, hm, hr, hcell⟩
  · exact ⟨fun _ => 0, fun _ => 0, _, _, rfl, Nat.le_refl _, by decide, by decide, fun i hi => by omega, .inl rfl⟩
  · refine ⟨xs, ys, _, _, rfl, hl, Nat.le_trans hl hm, hr, fun i hi => ⟨(hcell i hi).2.2.1, (hcell i hi).2.2.2⟩, ?_⟩
    rcases Nat.eq_zero_or_pos len with h0 | h0
    · exact .inl h0
    · right
      obtain ⟨b, off, spot⟩ := x
      have hspot : spot = none := by simpa [Addr.add] using World.cell?_spot (hcell 0 h0).1
      subst hspot
      refine ⟨h0, b, off, rfl, fun i hi => ⟨?_, ?_⟩⟩
      · have h := (hcell i hi).1
        rw [add_plain] at h
        exact h
      · have h := (hcell i hi).2.1
        rw [add_plain, ← Nat.add_assoc] at h
        exact h
theorem walk (a0 : Option Addr) (len0 cap0 : Nat) (x1 y1 : Nat) (ox1 : okK .f64 x1) (oy1 : okK .f64 y1) (x2 y2 : Nat) (ox2 : okK .f64 x2) (oy2 : okK .f64 y2) (w : World) (h0 : IsWays w a0 len0 cap0) :
    Calls Try.prog 4 #[.slice a0 len0 cap0, .agg #[.float .f64 x1, .float .f64 y1], .agg #[.float .f64 x2, .float .f64 y2]] w fun e w' => e = .returned (.bool true) ∧ Below w.heap.size w w' := by
  obtain ⟨xs0, ys0, g0⟩ := any_of h0
  exact (walk_any _ _ xs0 ys0 x1 y1 ox1 oy1 x2 y2 ox2 oy2 w g0).mono fun e w' h => ⟨h.1, h.2.1⟩

set_option maxRecDepth 100000 in
theorem lifted (os : Os) (started : os.Started) (H : Type) (enc : TypeId × Value → H) :
    ReturnsInHanded {} Try.checked os 4 .any (Rows.polyOneSpec.pre6 enc Try.prog Try.f4 Rows.polyOneRow.domain false) (Rows.polyOneSpec.post enc Try.prog Try.f4 false true false false) := by
  refine returnsInHanded_of_change_sized (C := Try.checked) own started (by kernel_rfl) Try.func4
    (ChangeSpec.witness6 (enc := enc) (C := Try.checked) false ⟨#[], #[.slice none 0 0, .agg #[.float .f64 0, .float .f64 0], .agg #[.float .f64 0, .float .f64 0]], []⟩ 8 (by kernel_rfl) (by kernel_rfl) (by kernel_rfl) (by kernel_rfl)) ?_
  intro W base args ds gs before hval0 hW hcnd hsz0 _
  have hsz : (DataW.weightsEach Try.prog (Try.f4.params.toList ++ Rows.polyOneSpec.plain.varTypes Try.prog) (ds ++ gs)).all (· ≤ reachBytes) = true := hsz0
  have hval : ∀ (j : Nat) t v, Try.f4.params[j]? = some t → args[j]? = some v → Value.okWide Try.prog W .any base t v := hval0
  have hW' := hW
  obtain ⟨p, q, hA0, hV, rfl, hfz, hnd⟩ := hW
  have hA : DataW.TrodAll enc Try.prog W 0 (fun _ => true) true Try.f4.params.toList args.toList ds p := hA0
  rw [Try.params4] at hA hval hsz
  obtain ⟨v0, vs0, d0, ds0, p0, q0, hargs, rfl, rfl, h0, r0⟩ := trodAll_cons hA
  obtain ⟨v1, vs1, d1, ds1, p1, q1, rfl, rfl, rfl, h1, r1⟩ := trodAll_cons r0
  obtain ⟨v2, vs2, d2, ds2, p2, q2, rfl, rfl, rfl, h2, r2⟩ := trodAll_cons r1
  obtain ⟨rfl, rfl, rfl⟩ := trodAll_nil r2
  obtain rfl : args = #[v0, v1, v2] := by cases args; simp_all
  obtain ⟨rfl, rfl⟩ := trodVars_none hV
  obtain ⟨a0, len0, cap0, rfl⟩ := okWide_slice Try.underlying38 (hval 0 38 v0 rfl rfl)
  obtain ⟨c1, k1, z1, u1, m1, rfl, rfl, rfl, hz1, hu1⟩ := open_agg2 Try.underlying24 (by kernel_rfl) cellsV (hval 1 24 v1 rfl rfl) h1
  obtain ⟨x1, e0, rfl, wx1⟩ := trod_fl Try.underlying22 hz1
  obtain ⟨y1, e1, rfl, wy1⟩ := trod_fl Try.underlying22 hu1
  simp at e0 e1
  subst e0 e1
  obtain ⟨c2, k2, z2, u2, m2, rfl, rfl, rfl, hz2, hu2⟩ := open_agg2 Try.underlying24 (by kernel_rfl) cellsV (hval 2 24 v2 rfl rfl) h2
  obtain ⟨x2, e0, rfl, wx2⟩ := trod_fl Try.underlying22 hz2
  obtain ⟨y2, e1, rfl, wy2⟩ := trod_fl Try.underlying22 hu2
  simp at e0 e1
  subst e0 e1
  have k0 := h0
  have lt0 : ∀ x ∈ p0, x.block < W.heap.size := by obtain ⟨m, hm⟩ := k0; exact DataW.trod_lt m _ _ _ hm
  have w0 : IsWays W a0 len0 cap0 := by
    obtain ⟨fuel, hf⟩ := h0
    rcases Go.Deep.open_slice_pairs Try.underlying38 Try.underlying24 (by kernel_rfl) rfl rfl (by kernel_rfl) (by kernel_rfl) hf with ⟨hcs, _⟩ | ⟨x, l, c, m, n, V0, V1, D0, D1, P0, P1, hcs, _, hl, hm, hmm, hx, hcell⟩
    · simp [Value.cells] at hcs
      exact .inl hcs
    · simp [Value.cells] at hcs
      obtain ⟨rfl, rfl, rfl⟩ := hcs
      simp only [Prod.mk.injEq] at hx
      obtain ⟨rfl, rfl⟩ := hx
      have hr := sized_slice hsz (j := 0) (t := 38) (e := 24) rfl rfl Try.underlying38
      rw [show Try.prog.bytesOf 24 = 16 by kernel_rfl] at hr
      simp only [List.length_map, List.length_range, reachBytes] at hr
      have hlm : len0 ≤ m := by rw [hmm]; split <;> omega
      have V : ∀ i, ∃ xy : Nat × Nat, i < m → V0 i = .float .f64 xy.1 ∧ V1 i = .float .f64 xy.2 ∧ okK .f64 xy.1 ∧ okK .f64 xy.2 := by
        intro i
        by_cases hi : i < m
        · obtain ⟨_, _, h3, h4⟩ := hcell i hi
          obtain ⟨x, e0, _, wx⟩ := trod_fl Try.underlying22 h3
          obtain ⟨y, e1, _, wy⟩ := trod_fl Try.underlying22 h4
          simp at e0 e1
          exact ⟨(x, y), fun _ => ⟨e0, e1, wf_f64 wx, wf_f64 wy⟩⟩
        · exact ⟨(0, 0), fun h => absurd h hi⟩
      have V' := Classical.axiomOfChoice V
      obtain ⟨f, hf'⟩ := V'
      refine .inr ⟨x, fun i => (f i).1, fun i => (f i).2, rfl, hl, hm, by omega, fun i hi => ?_⟩
      obtain ⟨e0, e1, o0, o1⟩ := hf' i (by omega)
      obtain ⟨c0, c1, _, _⟩ := hcell i (by omega)
      rw [e0] at c0
      rw [e1] at c1
      exact ⟨c0, c1, o0, o1⟩
  clear hA0 hval0 hsz0
  refine (walk a0 len0 cap0 x1 y1 (wf_f64 wx1) (wf_f64 wy1) x2 y2 (wf_f64 wx2) (wf_f64 wy2) W w0).mono fun e W' ⟨he, bel0⟩ => ?_
  have bel := bel0
  subst he
  exact ⟨_, rfl, _, _, _, [], _, [], hW', trodAll_mk1 (shut_bool Try.underlying4 _), (trodAll_cons_mk (Below.trod laidOut (by kernel_rfl) (of_decide_eq_true (by kernel_rfl)) k0 bel lt0) (trodAll_cons_mk (shut_agg2 (y0 := (.lit (.float .f64 x1), [])) (y1 := (.lit (.float .f64 y1), [])) Try.underlying24 (by kernel_rfl) cellsV ⟨1, by simp [DataW.trod, show Try.checked.prog.underlying 22 = some (.float .f64) from Try.underlying22, wx1]⟩ ⟨1, by simp [DataW.trod, show Try.checked.prog.underlying 22 = some (.float .f64) from Try.underlying22, wy1]⟩) (trodAll_cons_mk (shut_agg2 (y0 := (.lit (.float .f64 x2), [])) (y1 := (.lit (.float .f64 y2), [])) Try.underlying24 (by kernel_rfl) cellsV ⟨1, by simp [DataW.trod, show Try.checked.prog.underlying 22 = some (.float .f64) from Try.underlying22, wx2]⟩ ⟨1, by simp [DataW.trod, show Try.checked.prog.underlying 22 = some (.float .f64) from Try.underlying22, wy2]⟩) trodAll_mk0))), rfl, bel.frame _, fun h => by cases h⟩

theorem over : Rows.polyOneRow.holds Try.pinned (OpenSpec.ofChange Rows.polyOneSpec) :=
  OpenClaim.holds_of_wide 4 Try.f4 rfl rfl rfl rfl rfl rfl rfl ⟨rfl, rfl, rfl, rfl, rfl⟩ rfl rfl rfl rfl rfl (by kernel_rfl) Try.func4 (by kernel_rfl)
    (of_decide_eq_true (by kernel_rfl)) (by unfold Func.isWrapper; first | (rw [if_pos (by decide +kernel)]; kernel_rfl) | (rw [if_neg (by decide +kernel)]; exact ⟨rfl, rfl⟩))
    (fun os started H enc _ => lifted os started H enc)

theorem proved : Rows.PolyOneSaid :=
  over
#print axioms proved
end Go.Proofs.Ytdkfefbllmjnjaa.polyOne
