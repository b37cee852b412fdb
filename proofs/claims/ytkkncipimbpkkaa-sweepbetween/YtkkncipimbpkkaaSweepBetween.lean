/-
  'tumblelaw13.SweepBetween' is true of all rows of boxes.
-/
import Derived.Test.YtkkncipimbpkkaaRows
import Derived.Test.YtkkncipimbpkkaaSwx
import Derived.Test.YtkkncipimbpkkaaSwz
import Derived.Test.YtkkncipimbpkkaaSwzr
import Derived.Test.YtkkncipimbpkkaaOnc5
import Derived.WalkKit
import Derived.ProofKit
import Derived.OpenShut
import Derived.WalkLawsBesides
import Derived.WalkSpells
import Derived.Lib.SmallJoins
import Derived.Laws.Cover2
import Derived.Laws.AppendOwn
import Derived.Laws.OwnMore
import Derived.Laws.AppendOwnNone
import Derived.Deep.RegionHeld3
import Derived.Deep.RegionWith
import Derived.Deep.SlicePairs
import Derived.Deep.Strs
import Derived.SizedLaws
import Derived.Below
import Derived.Deep.DeepCutAuto
import Derived.Laws.StructEq
namespace Go.Proofs.Ytkkncipimbpkkaa.sweepBetween
open Go.ChangeShapes Go.WideShapes Go.ChangeAt Go.RowKit Go.Joins Go.Sort
set_option linter.unusedVariables false
set_option linter.unusedSimpArgs false

theorem own : ownKnob Try.prog.godebug = none := by kernel_rfl
theorem laidOut : laidOutB Try.prog = true := by kernel_rfl
theorem wf_f64 {x : Nat} (h : (Lit.float .f64 x).wf = true) : okK .f64 x := by
  rw [okK64]; simpa [Lit.wf] using h
theorem trod_fl {H : Type} {enc : TypeId × Value → H} {P : Program} {w : World} {base fuel : Nat} {spare : Nat → Bool} {held : Bool} {t : TypeId} {cs : List Value} {x : DataW H × List MemPlace} {k : FloatKind} (ht : P.underlying t = some (.float k)) (h : DataW.trod enc P w base spare held fuel t cs = some x) : ∃ z, cs = [.float k z] ∧ x = (.lit (.float k z), []) ∧ (Lit.float k z).wf = true := by
  cases fuel with
  | zero => simp [DataW.trod] at h
  | succ n =>
    unfold DataW.trod at h
    rw [ht] at h
    split at h <;> simp_all

theorem cellsV : Try.prog.cellsOf 25 = 2 := by kernel_rfl
theorem cellsM : Try.prog.cellsOf 27 = 4 := by kernel_rfl
theorem cellsF : Try.prog.cellsOf 23 = 1 := by kernel_rfl

theorem own_len3 {sz base : Nat} {w : World} {v : Value} {n : Nat} {R : List Value} (h : OwnR sz base w v n R) : ∃ sa cap, v = .slice sa n cap := by
  rcases h.2 with ⟨e1, e2⟩ | ⟨k, cap, e, _⟩
  · subst e2; exact ⟨_, _, e1⟩
  · exact ⟨_, _, e⟩
theorem same_len (B C : Nat → Bo) (n m : Nat) : (prL (max m n) (refB C B m n)).length = (prL (max n m) (refB B C n m)).length := by
  have h := refB_len B C n m
  rw [Nat.max_comm m n]
  unfold prL
  rw [← h]
  split
  · rfl
  · split
    · rfl
    · exact h.symm
def NB (a b : World) : Prop := Go.RowKit.Below a.heap.size a b
theorem nb_refl {a : World} : NB a a := (bl_refl a).1
theorem nb_drew {a : World} : NB a a.drew := (bl_drew (bl_refl a)).1
theorem nb_trans {a b c : World} (h : NB a b) (k : NB b c) : NB a c := bw_trans h k
def Got (base : Nat) (L : List (Nat × Nat)) (W : World) (v : Value) : Prop := OwnR 2 base W v L.length (pRow L) ∧ (L = [] → v = .slice none 0 0)
theorem Got.below {base : Nat} {L : List (Nat × Nat)} {W W' : World} {v : Value} (h : Got base L W v) (b : NB W W') : Got base L W' v := by
  refine ⟨?_, h.2⟩
  rcases h.1.below b (by decide) with h1 | h1
  · exact h1
  · have e0 : L = [] := List.eq_nil_of_length_eq_zero h1
    rw [h.2 e0, e0]
    exact OwnR.nil _ _ _
set_option maxRecDepth 100000 in
set_option maxHeartbeats 32000000 in
theorem walk_any (sa : Option Addr) (n cap : Nat) (B : Nat → Bo) (sb : Option Addr) (m cap2 : Nat) (C : Nat → Bo) (w : World) (hA : AnyB w sa n B) (hr : n * 32 ≤ 140737488351232) (ho : ∀ i, i < n → okK .f64 (B i).1 ∧ okK .f64 (B i).2.1 ∧ okK .f64 (B i).2.2.1 ∧ okK .f64 (B i).2.2.2) (hC : AnyB w sb m C) (hr2 : m * 32 ≤ 140737488351232) (ho2 : ∀ i, i < m → okK .f64 (C i).1 ∧ okK .f64 (C i).2.1 ∧ okK .f64 (C i).2.2.1 ∧ okK .f64 (C i).2.2.2) :
    Calls Try.prog 6 #[.slice sa n cap, .slice sb m cap2] w fun e w' => e = .returned (.bool true) ∧ Below w.heap.size w w' := by
  have hSL := same_len B C n m
  obtain ⟨E, hE⟩ : ∃ E, prE (max n m) (refB B C n m) = E := ⟨_, rfl⟩
  obtain ⟨PL, hPL⟩ : ∃ L, prL (max n m) (refB B C n m) = L := ⟨_, rfl⟩
  obtain ⟨F, hF⟩ : ∃ E, prE (max m n) (refB C B m n) = E := ⟨_, rfl⟩
  obtain ⟨PT, hPT⟩ : ∃ L, prL (max m n) (refB C B m n) = L := ⟨_, rfl⟩
  have hl := prL_len (max n m) (refB B C n m)
  rw [hPL] at hl
  rw [hPL, hPT] at hSL
  have HE : Hid (prE (max n m) (refB B C n m) = E) := hE
  have HL : Hid (prL (max n m) (refB B C n m) = PL) := hPL
  have HF : Hid (prE (max m n) (refB C B m n) = F) := hF
  have HT : Hid (prL (max m n) (refB C B m n) = PT) := hPT
  have HSL : Hid (PT.length = PL.length) := hSL
  clear hE hPL hF hPT hSL
  have n1 : (n : Int) ≤ (n : Int) + 1 := by omega
  have m1 : (m : Int) ≤ (m : Int) + 1 := by omega
  go_enter Try.func6, Try.ntmps6
  go_upto_region 3 with (first | (go_at_call 15; first | (have zn := mL; clear zn; (with_reducible refine (lent_s sb m cap2 C _ hC1 hr2).mono ?_); rintro e w2 ⟨g2, c2, rfl, hg2, hc2, hcm2, hM2, hgm2, hb2⟩; have hcz2 : (m : Int) ≤ (c2 : Int) := (by omega); have B2 := bl_trans B1 hb2; have hA2 := hA.below B2.1; have hC2 := hC.below B2.1; have hL2 := hL1.below hb2.1; have hgl2 := Nat.lt_of_lt_of_le hgl1 hb2.size) | ((with_reducible refine (lent_s sa n cap B _ hA hr).mono ?_); rintro e w1 ⟨g, c, rfl, hg, hc, hcm, hL1, hgl1, B1⟩; have hcz : (n : Int) ≤ (c : Int) := (by omega); have hC1 := hC.below B1.1; have mL := hide True.intro)) | (go_at_call 23; (with_reducible refine (rbet_any sa sb n cap m cap2 B C w2 hA2 hC2).mono ?_); rintro e w3 ⟨vW, rfl, hOW, hb3⟩; rw [HE.out]; rw [HL.out] at hOW; have B3 := bl_trans B2 hb3; have hrW := own_prow hOW; have hL3 := hL2.below hb3.1; have hM3 := hM2.below hb3.1; have hgl3 := Nat.lt_of_lt_of_le hgl2 hb3.size; have hgm3 := Nat.lt_of_lt_of_le hgm2 hb3.size; have aB3 : AnyB w3 (some ⟨g, 0, none⟩) n B := .inr ⟨g, 0, rfl, hL3.1, hgl3⟩; have aC3 : AnyB w3 (some ⟨g2, 0, none⟩) m C := .inr ⟨g2, 0, rfl, hM3.1, hgm3⟩))
  have hBe : ∀ W, NB w3 W → Calls Try.prog 13 #[.slice (some ⟨g, 0, none⟩) n c, .slice (some ⟨g2, 0, none⟩) m c2] W fun e w' => ∃ v, e = .returned (.tuple #[v, .int .i64 E]) ∧ Got w3.heap.size PL w' v ∧ NB W w' := fun W hb => by
    refine (bet_any (some ⟨g, 0, none⟩) (some ⟨g2, 0, none⟩) n c m c2 B C W (aB3.below hb) (aC3.below hb)).mono ?_
    rintro e w' ⟨v, rfl, h1, h2, h3⟩
    rw [HE.out]
    rw [HL.out] at h1 h2
    exact ⟨v, rfl, ⟨h1.base hb.size, h2⟩, h3⟩
  refine wp_region_monoN 14 rfl (fun i W v => match i with | 0 => v = .slice (some ⟨g, 0, none⟩) (n + 1) c | 1 => v = .slice sa n cap | 2 => v = .int .i64 (n : Int) | 3 => v = .slice (some ⟨g, 0, none⟩) n c | 4 => v = .slice (some ⟨g2, 0, none⟩) (m + 1) c2 | 5 => v = .slice sb m cap2 | 6 => v = .int .i64 (m : Int) | 7 => v = .slice (some ⟨g2, 0, none⟩) m c2 | 8 => ∃ x, v = .tuple #[x, .int .i64 E] ∧ Got w3.heap.size PL W x | 9 => ∃ x, v = .tuple #[x, .int .i64 E] ∧ Got w3.heap.size PL W x | 10 => ∃ x, v = x ∧ Got w3.heap.size PL W x | 11 => v = .int .i64 E | 12 => ∃ x, v = x ∧ Got w3.heap.size PL W x | 13 => v = .int .i64 E | _ => False) NB nb_drew (fun _ _ _ => nb_trans) ?A_wu (by kernel_rfl) (by kernel_rfl) ?hA_wu ?hmo_wu ?hq_wu ?ht_wu
  case hA_wu =>
    intro s
    simp only [putL, dstO, Act.put, List.getElem?_toArray, List.getElem?_cons_zero, List.getElem?_cons_succ, Option.bind_some, List.setIfInBounds_toArray, List.set_cons_zero, List.set_cons_succ, if_true]
    all_goals exact rfl
  case hmo_wu =>
    intro i W W' v hi _ hb h
    rcases (show i = 0 ∨ i = 1 ∨ i = 2 ∨ i = 3 ∨ i = 4 ∨ i = 5 ∨ i = 6 ∨ i = 7 ∨ i = 8 ∨ i = 9 ∨ i = 10 ∨ i = 11 ∨ i = 12 ∨ i = 13 by omega) with rfl | rfl | rfl | rfl | rfl | rfl | rfl | rfl | rfl | rfl | rfl | rfl | rfl | rfl
    all_goals first | exact h | (obtain ⟨x, e, o⟩ := h; exact ⟨x, e, Got.below o hb⟩)
  case hq_wu =>
    intro i o hi ho s W hs hb K hK
    rcases (show i = 0 ∨ i = 1 ∨ i = 2 ∨ i = 3 ∨ i = 4 ∨ i = 5 ∨ i = 6 ∨ i = 7 ∨ i = 8 ∨ i = 9 ∨ i = 10 ∨ i = 11 ∨ i = 12 ∨ i = 13 by omega) with rfl | rfl | rfl | rfl | rfl | rfl | rfl | rfl | rfl | rfl | rfl | rfl | rfl | rfl
    · cases ho
      simp only [Act.put, List.setIfInBounds_toArray, List.set_cons_zero, List.set_cons_succ] at hK
      clear hs
      go_simp
      all_goals (try go_wp2_with (first | (go_at_call 13; (with_reducible refine (hBe _ hb).mono ?_); rintro e w' ⟨V8, rfl, hG8, hb8⟩)))
      all_goals first | (with_reducible exact hK.out _ _ ⟨_, rfl, hG8⟩ hb8) | (with_reducible exact hK.out _ _ ⟨_, rfl, o8⟩ nb_refl) | (with_reducible exact hK.out _ _ ⟨_, rfl, o9⟩ nb_refl) | (with_reducible exact hK.out _ _ ⟨_, rfl, o10⟩ nb_refl) | with_reducible exact hK.out _ _ rfl nb_refl | exact hK.out _ _ rfl (by assumption) | exact hK.out _ _ (by assumption) (by assumption)
    · cases ho
      simp only [Act.put, List.setIfInBounds_toArray, List.set_cons_zero, List.set_cons_succ] at hK
      clear hs
      go_simp
      all_goals (try go_wp2_with (first | (go_at_call 13; (with_reducible refine (hBe _ hb).mono ?_); rintro e w' ⟨V8, rfl, hG8, hb8⟩)))
      all_goals first | (with_reducible exact hK.out _ _ ⟨_, rfl, hG8⟩ hb8) | (with_reducible exact hK.out _ _ ⟨_, rfl, o8⟩ nb_refl) | (with_reducible exact hK.out _ _ ⟨_, rfl, o9⟩ nb_refl) | (with_reducible exact hK.out _ _ ⟨_, rfl, o10⟩ nb_refl) | with_reducible exact hK.out _ _ rfl nb_refl | exact hK.out _ _ rfl (by assumption) | exact hK.out _ _ (by assumption) (by assumption)
    · cases ho
      have e1 : s 1 = _ := hs 1 (by decide) (by kernel_rfl)
      simp only [e1] at hK ⊢
      simp only [Act.put, List.setIfInBounds_toArray, List.set_cons_zero, List.set_cons_succ] at hK
      clear hs
      go_simp
      all_goals (try go_wp2_with (first | (go_at_call 13; (with_reducible refine (hBe _ hb).mono ?_); rintro e w' ⟨V8, rfl, hG8, hb8⟩)))
      all_goals first | (with_reducible exact hK.out _ _ ⟨_, rfl, hG8⟩ hb8) | (with_reducible exact hK.out _ _ ⟨_, rfl, o8⟩ nb_refl) | (with_reducible exact hK.out _ _ ⟨_, rfl, o9⟩ nb_refl) | (with_reducible exact hK.out _ _ ⟨_, rfl, o10⟩ nb_refl) | with_reducible exact hK.out _ _ rfl nb_refl | exact hK.out _ _ rfl (by assumption) | exact hK.out _ _ (by assumption) (by assumption)
    · cases ho
      have e0 : s 0 = _ := hs 0 (by decide) (by kernel_rfl)
      have e2 : s 2 = _ := hs 2 (by decide) (by kernel_rfl)
      simp only [e0, e2] at hK ⊢
      simp only [Act.put, List.setIfInBounds_toArray, List.set_cons_zero, List.set_cons_succ] at hK
      clear hs
      go_simp
      all_goals (try go_wp2_with (first | (go_at_call 13; (with_reducible refine (hBe _ hb).mono ?_); rintro e w' ⟨V8, rfl, hG8, hb8⟩)))
      all_goals first | (with_reducible exact hK.out _ _ ⟨_, rfl, hG8⟩ hb8) | (with_reducible exact hK.out _ _ ⟨_, rfl, o8⟩ nb_refl) | (with_reducible exact hK.out _ _ ⟨_, rfl, o9⟩ nb_refl) | (with_reducible exact hK.out _ _ ⟨_, rfl, o10⟩ nb_refl) | with_reducible exact hK.out _ _ rfl nb_refl | exact hK.out _ _ rfl (by assumption) | exact hK.out _ _ (by assumption) (by assumption)
    · cases ho
      simp only [Act.put, List.setIfInBounds_toArray, List.set_cons_zero, List.set_cons_succ] at hK
      clear hs
      go_simp
      all_goals (try go_wp2_with (first | (go_at_call 13; (with_reducible refine (hBe _ hb).mono ?_); rintro e w' ⟨V8, rfl, hG8, hb8⟩)))
      all_goals first | (with_reducible exact hK.out _ _ ⟨_, rfl, hG8⟩ hb8) | (with_reducible exact hK.out _ _ ⟨_, rfl, o8⟩ nb_refl) | (with_reducible exact hK.out _ _ ⟨_, rfl, o9⟩ nb_refl) | (with_reducible exact hK.out _ _ ⟨_, rfl, o10⟩ nb_refl) | with_reducible exact hK.out _ _ rfl nb_refl | exact hK.out _ _ rfl (by assumption) | exact hK.out _ _ (by assumption) (by assumption)
    · cases ho
      simp only [Act.put, List.setIfInBounds_toArray, List.set_cons_zero, List.set_cons_succ] at hK
      clear hs
      go_simp
      all_goals (try go_wp2_with (first | (go_at_call 13; (with_reducible refine (hBe _ hb).mono ?_); rintro e w' ⟨V8, rfl, hG8, hb8⟩)))
      all_goals first | (with_reducible exact hK.out _ _ ⟨_, rfl, hG8⟩ hb8) | (with_reducible exact hK.out _ _ ⟨_, rfl, o8⟩ nb_refl) | (with_reducible exact hK.out _ _ ⟨_, rfl, o9⟩ nb_refl) | (with_reducible exact hK.out _ _ ⟨_, rfl, o10⟩ nb_refl) | with_reducible exact hK.out _ _ rfl nb_refl | exact hK.out _ _ rfl (by assumption) | exact hK.out _ _ (by assumption) (by assumption)
    · cases ho
      have e5 : s 5 = _ := hs 5 (by decide) (by kernel_rfl)
      simp only [e5] at hK ⊢
      simp only [Act.put, List.setIfInBounds_toArray, List.set_cons_zero, List.set_cons_succ] at hK
      clear hs
      go_simp
      all_goals (try go_wp2_with (first | (go_at_call 13; (with_reducible refine (hBe _ hb).mono ?_); rintro e w' ⟨V8, rfl, hG8, hb8⟩)))
      all_goals first | (with_reducible exact hK.out _ _ ⟨_, rfl, hG8⟩ hb8) | (with_reducible exact hK.out _ _ ⟨_, rfl, o8⟩ nb_refl) | (with_reducible exact hK.out _ _ ⟨_, rfl, o9⟩ nb_refl) | (with_reducible exact hK.out _ _ ⟨_, rfl, o10⟩ nb_refl) | with_reducible exact hK.out _ _ rfl nb_refl | exact hK.out _ _ rfl (by assumption) | exact hK.out _ _ (by assumption) (by assumption)
    · cases ho
      have e4 : s 4 = _ := hs 4 (by decide) (by kernel_rfl)
      have e6 : s 6 = _ := hs 6 (by decide) (by kernel_rfl)
      simp only [e4, e6] at hK ⊢
      simp only [Act.put, List.setIfInBounds_toArray, List.set_cons_zero, List.set_cons_succ] at hK
      clear hs
      go_simp
      all_goals (try go_wp2_with (first | (go_at_call 13; (with_reducible refine (hBe _ hb).mono ?_); rintro e w' ⟨V8, rfl, hG8, hb8⟩)))
      all_goals first | (with_reducible exact hK.out _ _ ⟨_, rfl, hG8⟩ hb8) | (with_reducible exact hK.out _ _ ⟨_, rfl, o8⟩ nb_refl) | (with_reducible exact hK.out _ _ ⟨_, rfl, o9⟩ nb_refl) | (with_reducible exact hK.out _ _ ⟨_, rfl, o10⟩ nb_refl) | with_reducible exact hK.out _ _ rfl nb_refl | exact hK.out _ _ rfl (by assumption) | exact hK.out _ _ (by assumption) (by assumption)
    · cases ho
      have e3 : s 3 = _ := hs 3 (by decide) (by kernel_rfl)
      have e7 : s 7 = _ := hs 7 (by decide) (by kernel_rfl)
      simp only [e3, e7] at hK ⊢
      simp only [Act.put, List.setIfInBounds_toArray, List.set_cons_zero, List.set_cons_succ] at hK
      clear hs
      go_simp
      all_goals (try go_wp2_with (first | (go_at_call 13; (with_reducible refine (hBe _ hb).mono ?_); rintro e w' ⟨V8, rfl, hG8, hb8⟩)))
      all_goals first | (with_reducible exact hK.out _ _ ⟨_, rfl, hG8⟩ hb8) | (with_reducible exact hK.out _ _ ⟨_, rfl, o8⟩ nb_refl) | (with_reducible exact hK.out _ _ ⟨_, rfl, o9⟩ nb_refl) | (with_reducible exact hK.out _ _ ⟨_, rfl, o10⟩ nb_refl) | with_reducible exact hK.out _ _ rfl nb_refl | exact hK.out _ _ rfl (by assumption) | exact hK.out _ _ (by assumption) (by assumption)
    · cases ho
      obtain ⟨x8, e8, o8⟩ := hs 8 (by decide) (by kernel_rfl)
      simp only [e8] at hK ⊢
      simp only [Act.put, List.setIfInBounds_toArray, List.set_cons_zero, List.set_cons_succ] at hK
      clear hs
      go_simp
      all_goals (try go_wp2_with (first | (go_at_call 13; (with_reducible refine (hBe _ hb).mono ?_); rintro e w' ⟨V8, rfl, hG8, hb8⟩)))
      all_goals first | (with_reducible exact hK.out _ _ ⟨_, rfl, hG8⟩ hb8) | (with_reducible exact hK.out _ _ ⟨_, rfl, o8⟩ nb_refl) | (with_reducible exact hK.out _ _ ⟨_, rfl, o9⟩ nb_refl) | (with_reducible exact hK.out _ _ ⟨_, rfl, o10⟩ nb_refl) | with_reducible exact hK.out _ _ rfl nb_refl | exact hK.out _ _ rfl (by assumption) | exact hK.out _ _ (by assumption) (by assumption)
    · cases ho
      obtain ⟨x9, e9, o9⟩ := hs 9 (by decide) (by kernel_rfl)
      simp only [e9] at hK ⊢
      simp only [Act.put, List.setIfInBounds_toArray, List.set_cons_zero, List.set_cons_succ] at hK
      clear hs
      go_simp
      all_goals (try go_wp2_with (first | (go_at_call 13; (with_reducible refine (hBe _ hb).mono ?_); rintro e w' ⟨V8, rfl, hG8, hb8⟩)))
      all_goals first | (with_reducible exact hK.out _ _ ⟨_, rfl, hG8⟩ hb8) | (with_reducible exact hK.out _ _ ⟨_, rfl, o8⟩ nb_refl) | (with_reducible exact hK.out _ _ ⟨_, rfl, o9⟩ nb_refl) | (with_reducible exact hK.out _ _ ⟨_, rfl, o10⟩ nb_refl) | with_reducible exact hK.out _ _ rfl nb_refl | exact hK.out _ _ rfl (by assumption) | exact hK.out _ _ (by assumption) (by assumption)
    · cases ho
      obtain ⟨x9, e9, o9⟩ := hs 9 (by decide) (by kernel_rfl)
      simp only [e9] at hK ⊢
      simp only [Act.put, List.setIfInBounds_toArray, List.set_cons_zero, List.set_cons_succ] at hK
      clear hs
      go_simp
      all_goals (try go_wp2_with (first | (go_at_call 13; (with_reducible refine (hBe _ hb).mono ?_); rintro e w' ⟨V8, rfl, hG8, hb8⟩)))
      all_goals first | (with_reducible exact hK.out _ _ ⟨_, rfl, hG8⟩ hb8) | (with_reducible exact hK.out _ _ ⟨_, rfl, o8⟩ nb_refl) | (with_reducible exact hK.out _ _ ⟨_, rfl, o9⟩ nb_refl) | (with_reducible exact hK.out _ _ ⟨_, rfl, o10⟩ nb_refl) | with_reducible exact hK.out _ _ rfl nb_refl | exact hK.out _ _ rfl (by assumption) | exact hK.out _ _ (by assumption) (by assumption)
    · cases ho
      obtain ⟨x10, e10, o10⟩ := hs 10 (by decide) (by kernel_rfl)
      simp only [e10] at hK ⊢
      simp only [Act.put, List.setIfInBounds_toArray, List.set_cons_zero, List.set_cons_succ] at hK
      clear hs
      go_simp
      all_goals (try go_wp2_with (first | (go_at_call 13; (with_reducible refine (hBe _ hb).mono ?_); rintro e w' ⟨V8, rfl, hG8, hb8⟩)))
      all_goals first | (with_reducible exact hK.out _ _ ⟨_, rfl, hG8⟩ hb8) | (with_reducible exact hK.out _ _ ⟨_, rfl, o8⟩ nb_refl) | (with_reducible exact hK.out _ _ ⟨_, rfl, o9⟩ nb_refl) | (with_reducible exact hK.out _ _ ⟨_, rfl, o10⟩ nb_refl) | with_reducible exact hK.out _ _ rfl nb_refl | exact hK.out _ _ rfl (by assumption) | exact hK.out _ _ (by assumption) (by assumption)
    · cases ho
      have e11 : s 11 = _ := hs 11 (by decide) (by kernel_rfl)
      simp only [e11] at hK ⊢
      simp only [Act.put, List.setIfInBounds_toArray, List.set_cons_zero, List.set_cons_succ] at hK
      clear hs
      go_simp
      all_goals (try go_wp2_with (first | (go_at_call 13; (with_reducible refine (hBe _ hb).mono ?_); rintro e w' ⟨V8, rfl, hG8, hb8⟩)))
      all_goals first | (with_reducible exact hK.out _ _ ⟨_, rfl, hG8⟩ hb8) | (with_reducible exact hK.out _ _ ⟨_, rfl, o8⟩ nb_refl) | (with_reducible exact hK.out _ _ ⟨_, rfl, o9⟩ nb_refl) | (with_reducible exact hK.out _ _ ⟨_, rfl, o10⟩ nb_refl) | with_reducible exact hK.out _ _ rfl nb_refl | exact hK.out _ _ rfl (by assumption) | exact hK.out _ _ (by assumption) (by assumption)
  case ht_wu =>
    intro s w4 hs hb
    have e0 : s 0 = _ := hs 0 (by decide)
    have e1 : s 1 = _ := hs 1 (by decide)
    have e2 : s 2 = _ := hs 2 (by decide)
    have e3 : s 3 = _ := hs 3 (by decide)
    have e4 : s 4 = _ := hs 4 (by decide)
    have e5 : s 5 = _ := hs 5 (by decide)
    have e6 : s 6 = _ := hs 6 (by decide)
    have e7 : s 7 = _ := hs 7 (by decide)
    obtain ⟨x8, e8, o8⟩ := hs 8 (by decide)
    obtain ⟨x9, e9, o9⟩ := hs 9 (by decide)
    obtain ⟨x10, e10, o10⟩ := hs 10 (by decide)
    have e11 : s 11 = _ := hs 11 (by decide)
    obtain ⟨va, e12, o12⟩ := hs 12 (by decide)
    have e13 : s 13 = _ := hs 13 (by decide)
    simp only [e0, e1, e2, e3, e4, e5, e6, e7, e8, e9, e10, e11, e12, e13]
    clear hs e0 e1 e2 e3 e4 e5 e6 e7 e8 e9 e10 e11 e12 e13
  
    have hb4 := hb
    have o12' := o12
    clear hb o12 o8 o9 o10 hBe
    have L4 := bw_trans B3.1 hb4
    have hA4 := hA.below L4
    have hC4 := hC.below L4
    replace hrW := hrW.below hb4
    have hL4 := hL3.below hb4
    have hM4 := hM3.below hb4
    have hgl4 := Nat.lt_of_lt_of_le hgl3 hb4.size
    have hgm4 := Nat.lt_of_lt_of_le hgm3 hb4.size
    go_upto_region 5 with (first | (go_at_call 23; (with_reducible refine (rbet_any sb sa m cap2 n cap C B w4 hC4 hA4).mono ?_); rintro e w5 ⟨vT, rfl, hOT, hb5⟩; rw [HF.out]; rw [HT.out] at hOT; have L5 := bw_trans L4 hb5.1; have hrT := own_prow hOT; replace hrW := hrW.below hb5.1; have hL5 := hL4.below hb5.1; have hM5 := hM4.below hb5.1; have hgl5 := Nat.lt_of_lt_of_le hgl4 hb5.size; have hgm5 := Nat.lt_of_lt_of_le hgm4 hb5.size; have aB5 : AnyB w5 (some ⟨g, 0, none⟩) n B := .inr ⟨g, 0, rfl, hL5.1, hgl5⟩; have aC5 : AnyB w5 (some ⟨g2, 0, none⟩) m C := .inr ⟨g2, 0, rfl, hM5.1, hgm5⟩))
    have hBe : ∀ W, NB w5 W → Calls Try.prog 13 #[.slice (some ⟨g2, 0, none⟩) m c2, .slice (some ⟨g, 0, none⟩) n c] W fun e w' => ∃ v, e = .returned (.tuple #[v, .int .i64 F]) ∧ Got w5.heap.size PT w' v ∧ NB W w' := fun W hb => by
      refine (bet_any (some ⟨g2, 0, none⟩) (some ⟨g, 0, none⟩) m c2 n c C B W (aC5.below hb) (aB5.below hb)).mono ?_
      rintro e w' ⟨v, rfl, h1, h2, h3⟩
      rw [HF.out]
      rw [HT.out] at h1 h2
      exact ⟨v, rfl, ⟨h1.base hb.size, h2⟩, h3⟩
    refine wp_region_monoN 14 rfl (fun i W v => match i with | 0 => v = .slice (some ⟨g2, 0, none⟩) (m + 1) c2 | 1 => v = .slice sb m cap2 | 2 => v = .int .i64 (m : Int) | 3 => v = .slice (some ⟨g2, 0, none⟩) m c2 | 4 => v = .slice (some ⟨g, 0, none⟩) (n + 1) c | 5 => v = .slice sa n cap | 6 => v = .int .i64 (n : Int) | 7 => v = .slice (some ⟨g, 0, none⟩) n c | 8 => ∃ x, v = .tuple #[x, .int .i64 F] ∧ Got w5.heap.size PT W x | 9 => ∃ x, v = .tuple #[x, .int .i64 F] ∧ Got w5.heap.size PT W x | 10 => ∃ x, v = x ∧ Got w5.heap.size PT W x | 11 => v = .int .i64 F | 12 => ∃ x, v = x ∧ Got w5.heap.size PT W x | 13 => v = .int .i64 F | _ => False) NB nb_drew (fun _ _ _ => nb_trans) ?A_wv (by kernel_rfl) (by kernel_rfl) ?hA_wv ?hmo_wv ?hq_wv ?ht_wv
    case hA_wv =>
      intro s
      simp only [putL, dstO, Act.put, List.getElem?_toArray, List.getElem?_cons_zero, List.getElem?_cons_succ, Option.bind_some, List.setIfInBounds_toArray, List.set_cons_zero, List.set_cons_succ, if_true]
      all_goals exact rfl
    case hmo_wv =>
      intro i W W' v hi _ hb h
      rcases (show i = 0 ∨ i = 1 ∨ i = 2 ∨ i = 3 ∨ i = 4 ∨ i = 5 ∨ i = 6 ∨ i = 7 ∨ i = 8 ∨ i = 9 ∨ i = 10 ∨ i = 11 ∨ i = 12 ∨ i = 13 by omega) with rfl | rfl | rfl | rfl | rfl | rfl | rfl | rfl | rfl | rfl | rfl | rfl | rfl | rfl
      all_goals first | exact h | (obtain ⟨x, e, o⟩ := h; exact ⟨x, e, Got.below o hb⟩)
    case hq_wv =>
      intro i o hi ho s W hs hb K hK
      rcases (show i = 0 ∨ i = 1 ∨ i = 2 ∨ i = 3 ∨ i = 4 ∨ i = 5 ∨ i = 6 ∨ i = 7 ∨ i = 8 ∨ i = 9 ∨ i = 10 ∨ i = 11 ∨ i = 12 ∨ i = 13 by omega) with rfl | rfl | rfl | rfl | rfl | rfl | rfl | rfl | rfl | rfl | rfl | rfl | rfl | rfl
      · cases ho
        simp only [Act.put, List.setIfInBounds_toArray, List.set_cons_zero, List.set_cons_succ] at hK
        clear hs
        go_simp
        all_goals (try go_wp2_with (first | (go_at_call 13; (with_reducible refine (hBe _ hb).mono ?_); rintro e w' ⟨V8, rfl, hG8, hb8⟩)))
        all_goals first | (with_reducible exact hK.out _ _ ⟨_, rfl, hG8⟩ hb8) | (with_reducible exact hK.out _ _ ⟨_, rfl, o8⟩ nb_refl) | (with_reducible exact hK.out _ _ ⟨_, rfl, o9⟩ nb_refl) | (with_reducible exact hK.out _ _ ⟨_, rfl, o10⟩ nb_refl) | with_reducible exact hK.out _ _ rfl nb_refl | exact hK.out _ _ rfl (by assumption) | exact hK.out _ _ (by assumption) (by assumption)
      · cases ho
        simp only [Act.put, List.setIfInBounds_toArray, List.set_cons_zero, List.set_cons_succ] at hK
        clear hs
        go_simp
        all_goals (try go_wp2_with (first | (go_at_call 13; (with_reducible refine (hBe _ hb).mono ?_); rintro e w' ⟨V8, rfl, hG8, hb8⟩)))
        all_goals first | (with_reducible exact hK.out _ _ ⟨_, rfl, hG8⟩ hb8) | (with_reducible exact hK.out _ _ ⟨_, rfl, o8⟩ nb_refl) | (with_reducible exact hK.out _ _ ⟨_, rfl, o9⟩ nb_refl) | (with_reducible exact hK.out _ _ ⟨_, rfl, o10⟩ nb_refl) | with_reducible exact hK.out _ _ rfl nb_refl | exact hK.out _ _ rfl (by assumption) | exact hK.out _ _ (by assumption) (by assumption)
      · cases ho
        have e1 : s 1 = _ := hs 1 (by decide) (by kernel_rfl)
        simp only [e1] at hK ⊢
        simp only [Act.put, List.setIfInBounds_toArray, List.set_cons_zero, List.set_cons_succ] at hK
        clear hs
        go_simp
        all_goals (try go_wp2_with (first | (go_at_call 13; (with_reducible refine (hBe _ hb).mono ?_); rintro e w' ⟨V8, rfl, hG8, hb8⟩)))
        all_goals first | (with_reducible exact hK.out _ _ ⟨_, rfl, hG8⟩ hb8) | (with_reducible exact hK.out _ _ ⟨_, rfl, o8⟩ nb_refl) | (with_reducible exact hK.out _ _ ⟨_, rfl, o9⟩ nb_refl) | (with_reducible exact hK.out _ _ ⟨_, rfl, o10⟩ nb_refl) | with_reducible exact hK.out _ _ rfl nb_refl | exact hK.out _ _ rfl (by assumption) | exact hK.out _ _ (by assumption) (by assumption)
      · cases ho
        have e0 : s 0 = _ := hs 0 (by decide) (by kernel_rfl)
        have e2 : s 2 = _ := hs 2 (by decide) (by kernel_rfl)
        simp only [e0, e2] at hK ⊢
        simp only [Act.put, List.setIfInBounds_toArray, List.set_cons_zero, List.set_cons_succ] at hK
        clear hs
        go_simp
        all_goals (try go_wp2_with (first | (go_at_call 13; (with_reducible refine (hBe _ hb).mono ?_); rintro e w' ⟨V8, rfl, hG8, hb8⟩)))
        all_goals first | (with_reducible exact hK.out _ _ ⟨_, rfl, hG8⟩ hb8) | (with_reducible exact hK.out _ _ ⟨_, rfl, o8⟩ nb_refl) | (with_reducible exact hK.out _ _ ⟨_, rfl, o9⟩ nb_refl) | (with_reducible exact hK.out _ _ ⟨_, rfl, o10⟩ nb_refl) | with_reducible exact hK.out _ _ rfl nb_refl | exact hK.out _ _ rfl (by assumption) | exact hK.out _ _ (by assumption) (by assumption)
      · cases ho
        simp only [Act.put, List.setIfInBounds_toArray, List.set_cons_zero, List.set_cons_succ] at hK
        clear hs
        go_simp
        all_goals (try go_wp2_with (first | (go_at_call 13; (with_reducible refine (hBe _ hb).mono ?_); rintro e w' ⟨V8, rfl, hG8, hb8⟩)))
        all_goals first | (with_reducible exact hK.out _ _ ⟨_, rfl, hG8⟩ hb8) | (with_reducible exact hK.out _ _ ⟨_, rfl, o8⟩ nb_refl) | (with_reducible exact hK.out _ _ ⟨_, rfl, o9⟩ nb_refl) | (with_reducible exact hK.out _ _ ⟨_, rfl, o10⟩ nb_refl) | with_reducible exact hK.out _ _ rfl nb_refl | exact hK.out _ _ rfl (by assumption) | exact hK.out _ _ (by assumption) (by assumption)
      · cases ho
        simp only [Act.put, List.setIfInBounds_toArray, List.set_cons_zero, List.set_cons_succ] at hK
        clear hs
        go_simp
        all_goals (try go_wp2_with (first | (go_at_call 13; (with_reducible refine (hBe _ hb).mono ?_); rintro e w' ⟨V8, rfl, hG8, hb8⟩)))
        all_goals first | (with_reducible exact hK.out _ _ ⟨_, rfl, hG8⟩ hb8) | (with_reducible exact hK.out _ _ ⟨_, rfl, o8⟩ nb_refl) | (with_reducible exact hK.out _ _ ⟨_, rfl, o9⟩ nb_refl) | (with_reducible exact hK.out _ _ ⟨_, rfl, o10⟩ nb_refl) | with_reducible exact hK.out _ _ rfl nb_refl | exact hK.out _ _ rfl (by assumption) | exact hK.out _ _ (by assumption) (by assumption)
      · cases ho
        have e5 : s 5 = _ := hs 5 (by decide) (by kernel_rfl)
        simp only [e5] at hK ⊢
        simp only [Act.put, List.setIfInBounds_toArray, List.set_cons_zero, List.set_cons_succ] at hK
        clear hs
        go_simp
        all_goals (try go_wp2_with (first | (go_at_call 13; (with_reducible refine (hBe _ hb).mono ?_); rintro e w' ⟨V8, rfl, hG8, hb8⟩)))
        all_goals first | (with_reducible exact hK.out _ _ ⟨_, rfl, hG8⟩ hb8) | (with_reducible exact hK.out _ _ ⟨_, rfl, o8⟩ nb_refl) | (with_reducible exact hK.out _ _ ⟨_, rfl, o9⟩ nb_refl) | (with_reducible exact hK.out _ _ ⟨_, rfl, o10⟩ nb_refl) | with_reducible exact hK.out _ _ rfl nb_refl | exact hK.out _ _ rfl (by assumption) | exact hK.out _ _ (by assumption) (by assumption)
      · cases ho
        have e4 : s 4 = _ := hs 4 (by decide) (by kernel_rfl)
        have e6 : s 6 = _ := hs 6 (by decide) (by kernel_rfl)
        simp only [e4, e6] at hK ⊢
        simp only [Act.put, List.setIfInBounds_toArray, List.set_cons_zero, List.set_cons_succ] at hK
        clear hs
        go_simp
        all_goals (try go_wp2_with (first | (go_at_call 13; (with_reducible refine (hBe _ hb).mono ?_); rintro e w' ⟨V8, rfl, hG8, hb8⟩)))
        all_goals first | (with_reducible exact hK.out _ _ ⟨_, rfl, hG8⟩ hb8) | (with_reducible exact hK.out _ _ ⟨_, rfl, o8⟩ nb_refl) | (with_reducible exact hK.out _ _ ⟨_, rfl, o9⟩ nb_refl) | (with_reducible exact hK.out _ _ ⟨_, rfl, o10⟩ nb_refl) | with_reducible exact hK.out _ _ rfl nb_refl | exact hK.out _ _ rfl (by assumption) | exact hK.out _ _ (by assumption) (by assumption)
      · cases ho
        have e3 : s 3 = _ := hs 3 (by decide) (by kernel_rfl)
        have e7 : s 7 = _ := hs 7 (by decide) (by kernel_rfl)
        simp only [e3, e7] at hK ⊢
        simp only [Act.put, List.setIfInBounds_toArray, List.set_cons_zero, List.set_cons_succ] at hK
        clear hs
        go_simp
        all_goals (try go_wp2_with (first | (go_at_call 13; (with_reducible refine (hBe _ hb).mono ?_); rintro e w' ⟨V8, rfl, hG8, hb8⟩)))
        all_goals first | (with_reducible exact hK.out _ _ ⟨_, rfl, hG8⟩ hb8) | (with_reducible exact hK.out _ _ ⟨_, rfl, o8⟩ nb_refl) | (with_reducible exact hK.out _ _ ⟨_, rfl, o9⟩ nb_refl) | (with_reducible exact hK.out _ _ ⟨_, rfl, o10⟩ nb_refl) | with_reducible exact hK.out _ _ rfl nb_refl | exact hK.out _ _ rfl (by assumption) | exact hK.out _ _ (by assumption) (by assumption)
      · cases ho
        obtain ⟨x8, e8, o8⟩ := hs 8 (by decide) (by kernel_rfl)
        simp only [e8] at hK ⊢
        simp only [Act.put, List.setIfInBounds_toArray, List.set_cons_zero, List.set_cons_succ] at hK
        clear hs
        go_simp
        all_goals (try go_wp2_with (first | (go_at_call 13; (with_reducible refine (hBe _ hb).mono ?_); rintro e w' ⟨V8, rfl, hG8, hb8⟩)))
        all_goals first | (with_reducible exact hK.out _ _ ⟨_, rfl, hG8⟩ hb8) | (with_reducible exact hK.out _ _ ⟨_, rfl, o8⟩ nb_refl) | (with_reducible exact hK.out _ _ ⟨_, rfl, o9⟩ nb_refl) | (with_reducible exact hK.out _ _ ⟨_, rfl, o10⟩ nb_refl) | with_reducible exact hK.out _ _ rfl nb_refl | exact hK.out _ _ rfl (by assumption) | exact hK.out _ _ (by assumption) (by assumption)
      · cases ho
        obtain ⟨x9, e9, o9⟩ := hs 9 (by decide) (by kernel_rfl)
        simp only [e9] at hK ⊢
        simp only [Act.put, List.setIfInBounds_toArray, List.set_cons_zero, List.set_cons_succ] at hK
        clear hs
        go_simp
        all_goals (try go_wp2_with (first | (go_at_call 13; (with_reducible refine (hBe _ hb).mono ?_); rintro e w' ⟨V8, rfl, hG8, hb8⟩)))
        all_goals first | (with_reducible exact hK.out _ _ ⟨_, rfl, hG8⟩ hb8) | (with_reducible exact hK.out _ _ ⟨_, rfl, o8⟩ nb_refl) | (with_reducible exact hK.out _ _ ⟨_, rfl, o9⟩ nb_refl) | (with_reducible exact hK.out _ _ ⟨_, rfl, o10⟩ nb_refl) | with_reducible exact hK.out _ _ rfl nb_refl | exact hK.out _ _ rfl (by assumption) | exact hK.out _ _ (by assumption) (by assumption)
      · cases ho
        obtain ⟨x9, e9, o9⟩ := hs 9 (by decide) (by kernel_rfl)
        simp only [e9] at hK ⊢
        simp only [Act.put, List.setIfInBounds_toArray, List.set_cons_zero, List.set_cons_succ] at hK
        clear hs
        go_simp
        all_goals (try go_wp2_with (first | (go_at_call 13; (with_reducible refine (hBe _ hb).mono ?_); rintro e w' ⟨V8, rfl, hG8, hb8⟩)))
        all_goals first | (with_reducible exact hK.out _ _ ⟨_, rfl, hG8⟩ hb8) | (with_reducible exact hK.out _ _ ⟨_, rfl, o8⟩ nb_refl) | (with_reducible exact hK.out _ _ ⟨_, rfl, o9⟩ nb_refl) | (with_reducible exact hK.out _ _ ⟨_, rfl, o10⟩ nb_refl) | with_reducible exact hK.out _ _ rfl nb_refl | exact hK.out _ _ rfl (by assumption) | exact hK.out _ _ (by assumption) (by assumption)
      · cases ho
        obtain ⟨x10, e10, o10⟩ := hs 10 (by decide) (by kernel_rfl)
        simp only [e10] at hK ⊢
        simp only [Act.put, List.setIfInBounds_toArray, List.set_cons_zero, List.set_cons_succ] at hK
        clear hs
        go_simp
        all_goals (try go_wp2_with (first | (go_at_call 13; (with_reducible refine (hBe _ hb).mono ?_); rintro e w' ⟨V8, rfl, hG8, hb8⟩)))
        all_goals first | (with_reducible exact hK.out _ _ ⟨_, rfl, hG8⟩ hb8) | (with_reducible exact hK.out _ _ ⟨_, rfl, o8⟩ nb_refl) | (with_reducible exact hK.out _ _ ⟨_, rfl, o9⟩ nb_refl) | (with_reducible exact hK.out _ _ ⟨_, rfl, o10⟩ nb_refl) | with_reducible exact hK.out _ _ rfl nb_refl | exact hK.out _ _ rfl (by assumption) | exact hK.out _ _ (by assumption) (by assumption)
      · cases ho
        have e11 : s 11 = _ := hs 11 (by decide) (by kernel_rfl)
        simp only [e11] at hK ⊢
        simp only [Act.put, List.setIfInBounds_toArray, List.set_cons_zero, List.set_cons_succ] at hK
        clear hs
        go_simp
        all_goals (try go_wp2_with (first | (go_at_call 13; (with_reducible refine (hBe _ hb).mono ?_); rintro e w' ⟨V8, rfl, hG8, hb8⟩)))
        all_goals first | (with_reducible exact hK.out _ _ ⟨_, rfl, hG8⟩ hb8) | (with_reducible exact hK.out _ _ ⟨_, rfl, o8⟩ nb_refl) | (with_reducible exact hK.out _ _ ⟨_, rfl, o9⟩ nb_refl) | (with_reducible exact hK.out _ _ ⟨_, rfl, o10⟩ nb_refl) | with_reducible exact hK.out _ _ rfl nb_refl | exact hK.out _ _ rfl (by assumption) | exact hK.out _ _ (by assumption) (by assumption)
    case ht_wv =>
      intro s w6 hs hb
      have e0 : s 0 = _ := hs 0 (by decide)
      have e1 : s 1 = _ := hs 1 (by decide)
      have e2 : s 2 = _ := hs 2 (by decide)
      have e3 : s 3 = _ := hs 3 (by decide)
      have e4 : s 4 = _ := hs 4 (by decide)
      have e5 : s 5 = _ := hs 5 (by decide)
      have e6 : s 6 = _ := hs 6 (by decide)
      have e7 : s 7 = _ := hs 7 (by decide)
      obtain ⟨x8, e8, o8⟩ := hs 8 (by decide)
      obtain ⟨x9, e9, o9⟩ := hs 9 (by decide)
      obtain ⟨x10, e10, o10⟩ := hs 10 (by decide)
      have e11 : s 11 = _ := hs 11 (by decide)
      obtain ⟨vb, e12, o12⟩ := hs 12 (by decide)
      have e13 : s 13 = _ := hs 13 (by decide)
      simp only [e0, e1, e2, e3, e4, e5, e6, e7, e8, e9, e10, e11, e12, e13]
      clear hs e0 e1 e2 e3 e4 e5 e6 e7 e8 e9 e10 e11 e12 e13
    
      obtain ⟨hOb, hnb⟩ := o12
      have hrb := own_prow hOb
      replace hrW := hrW.below hb
      replace hrT := hrT.below hb
      have hra := own_prow ((o12'.below hb5.1).below hb).1
      have hOa := o12'.1
      have hna := o12'.2
      have hL6 := hL5.below hb
      have hM6 := hM5.below hb
      have L6 := bw_trans L5 hb
      have hA6 := hA.below L6
      have hC6 := hC.below L6
      have s3 : w.heap.size ≤ w3.heap.size := B3.size
      have s4 : w3.heap.size ≤ w4.heap.size := hb4.size
      have s5 : w4.heap.size ≤ w5.heap.size := hb5.size
      have s6 : w5.heap.size ≤ w6.heap.size := hb.size
      have hOa6 : OwnR 2 w3.heap.size w6 va PL.length (pRow PL) := by
        exact ((o12'.below hb5.1).below hb).1
      obtain ⟨ga, ca, hva⟩ := own_len3 hOa6
      obtain ⟨gb, cb, hvb⟩ := own_len3 hOb
      have HA4 : PL.length = 0 ∨ ∃ g, ga = some ⟨g, 0, none⟩ ∧ g < w5.heap.size ∧ g < w6.heap.size := by
        rcases own_split hOa (by decide) with ⟨h0, _⟩ | ⟨_, g', c', e, _, h2, _⟩
        · exact .inl h0
        · rw [hva] at e
          injection e with e1 _ _
          exact .inr ⟨g', e1, by omega, by omega⟩
      have HB4 : PL.length = 0 ∨ ∃ g, gb = some ⟨g, 0, none⟩ ∧ w5.heap.size ≤ g ∧ g < w6.heap.size := by
        rcases own_split hOb (by decide) with ⟨h0, _⟩ | ⟨_, g', c', e, h1, h2, _⟩
        · exact .inl (by rw [← HSL.out]; exact h0)
        · rw [hvb] at e
          injection e with e1 _ _
          exact .inr ⟨g', e1, h1, h2⟩
      have HZ4 : PL.length = 0 → ga = none ∧ gb = none := fun h => by
        have e0 : PL = [] := List.eq_nil_of_length_eq_zero h
        have e0' : PT = [] := List.eq_nil_of_length_eq_zero (by rw [HSL.out]; exact h)
        have e1 := hna e0
        have e2 := hnb e0'
        rw [hva] at e1
        rw [hvb] at e2
        injection e1 with e1 _ _
        injection e2 with e2 _ _
        exact ⟨e1, e2⟩
      have HD4 : ∀ g g', ga = some ⟨g, 0, none⟩ → gb = some ⟨g', 0, none⟩ → g ≠ g' := fun g g' e1 e2 => by
        rcases HA4 with h | ⟨x, hx, hx1, _⟩
        · rw [(HZ4 h).1] at e1; cases e1
        · rcases HB4 with h | ⟨y, hy, hy1, _⟩
          · rw [(HZ4 h).2] at e2; cases e2
          · rw [hx] at e1
            rw [hy] at e2
            injection e1 with e1
            injection e1 with e1 _ _
            injection e2 with e2
            injection e2 with e2 _ _
            omega
      subst hva hvb
      obtain ⟨N, hN⟩ : ∃ N, PL.length = N := ⟨_, rfl⟩
      have hNT : PT.length = N := by rw [HSL.out]; exact hN
      have hlP : PL.length < 4611686018427387904 := by omega
      have hlT : PT.length < 4611686018427387904 := by omega
      have HLP : Hid _ := hlP
      have HLT : Hid _ := hlT
      have HD : Hid _ := HD4
      have HZ : Hid _ := HZ4
      have HAA : Hid (PL.length = 0 ∨ ∃ g, ga = some ⟨g, 0, none⟩ ∧ g < w6.heap.size) := (by
        rcases HA4 with h | ⟨x, hx, _, hx2⟩
        · exact .inl h
        · exact .inr ⟨x, hx, hx2⟩)
      have HBB : Hid (PL.length = 0 ∨ ∃ g, gb = some ⟨g, 0, none⟩ ∧ g < w6.heap.size) := (by
        rcases HB4 with h | ⟨x, hx, _, hx2⟩
        · exact .inl h
        · exact .inr ⟨x, hx, hx2⟩)
      have HN : Hid (PL.length = N) := hN
      clear HD4 HZ4 HA4 HB4 hlP hlT hna hnb hOa HE HL HF HT
      rw [hN] at hOa6 hra ⊢
      rw [hNT] at hOb hrb ⊢
      rw [hN] at hl
      clear hN hNT
      have up : ∀ {u : World} {s : Option Addr}, Bel w6 u → Hid (PL.length = 0 ∨ ∃ g, s = some ⟨g, 0, none⟩ ∧ g < w6.heap.size) → (N = 0 ∨ ∃ g, s = some ⟨g, 0, none⟩ ∧ g < u.heap.size) := fun hb h => by
        rcases h.out with h | ⟨x, hx, hx2⟩
        · exact .inl (by rw [← HN.out]; exact h)
        · exact .inr ⟨x, hx, Nat.lt_of_lt_of_le hx2 hb.size⟩
      have HUP : Hid _ := @up
      clear up
      go_wp2_with (first | (go_at_call 17; first | (have zn := mS1; clear zn; have r1 := hrb.below hb7.1; have r2 := hrT.below hb7.1; (with_reducible refine (sameP_s PT _ _ w7 r1 r2 HLT.out).mono ?_); rintro e w8 ⟨rfl, hb8⟩; have B8 := bl_trans hb7 hb8) | ((with_reducible refine (sameP_s PL _ vW w6 hra hrW HLP.out).mono ?_); rintro e w7 ⟨rfl, hb7⟩; have mS1 := hide True.intro)) | (go_at_call 18; first | (have zn := mK; clear zn; have hM9 := hM6.below B9.1; have hC9 := hC6.below B9.1; (with_reducible refine (kept_s g2 c2 sb m cap2 C w9 hM9 hC9 ho2 hr2).mono ?_); rintro e w10 ⟨rfl, hb10⟩; have B10 := bl_trans B9 hb10; have L10 := bw_trans L6 B10.1; have hOa10 := hOa6.bel B10; have hOb10 := hOb.bel B10; have s10 := B10.size; have ua := HUP.out B10 HAA; have ub := HUP.out B10 HBB) | (have hL8 := hL6.below B8.1; have hA8 := hA6.below B8.1; (with_reducible refine (kept_s g c sa n cap B w8 hL8 hA8 ho hr).mono ?_); rintro e w9 ⟨rfl, hb9⟩; have B9 := bl_trans B8 hb9; have mK := hide True.intro)) | (go_at_call 19; (with_reducible refine (apart_s ga gb N ca cb w3.heap.size w5.heap.size w.heap.size _ _ w10 hOa10 hOb10 ua ub (fun h => HZ.out (by rw [HN.out]; exact h)) HD.out (by omega) (by omega) (by omega) (by omega) hl).mono ?_); rintro e w11 ⟨rfl, hb11⟩))
      go_ret
      exact ⟨by first | rfl | simp, L10.trans hb11⟩



/-- a row of boxes: none, or len of them in cells, with room for cap -/
def IsBoxes (w : World) (a : Option Addr) (len cap : Nat) : Prop :=
  (a = none ∧ len = 0 ∧ cap = 0) ∨ ∃ (x : Addr) (B : Nat → Bo), a = some x ∧ len ≤ cap ∧ cap ≤ maxLen ∧ len * 32 ≤ 140737488351232 ∧ ∀ i, i < len → w.cell? (x.add (i * 4)) = some (.float .f64 (B i).1) ∧ w.cell? (x.add (i * 4 + 1)) = some (.float .f64 (B i).2.1) ∧ w.cell? (x.add (i * 4 + 2)) = some (.float .f64 (B i).2.2.1) ∧ w.cell? (x.add (i * 4 + 3)) = some (.float .f64 (B i).2.2.2) ∧ okK .f64 (B i).1 ∧ okK .f64 (B i).2.1 ∧ okK .f64 (B i).2.2.1 ∧ okK .f64 (B i).2.2.2
theorem any_of {w : World} {a : Option Addr} {len cap : Nat} (h : IsBoxes w a len cap) : ∃ B, AnyB w a len B ∧ len * 32 ≤ 140737488351232 ∧ ∀ i, i < len → okK .f64 (B i).1 ∧ okK .f64 (B i).2.1 ∧ okK .f64 (B i).2.2.1 ∧ okK .f64 (B i).2.2.2 := by
  rcases h with ⟨rfl, rfl, rfl⟩ | ⟨x, B, rfl, hl, hm, hr, hcell⟩
  · exact ⟨fun _ => (0, 0, 0, 0), .inl rfl, by omega, fun i hi => by omega⟩
  · refine ⟨B, ?_, hr, fun i hi => (hcell i hi).2.2.2.2⟩
    rcases Nat.eq_zero_or_pos len with h0 | h0
    · exact .inl h0
    · right
      obtain ⟨b, off, spot⟩ := x
      have hspot : spot = none := by simpa [Addr.add] using World.cell?_spot (hcell 0 h0).1
      subst hspot
      have hc0 := (hcell 0 h0).1
      rw [add_plain] at hc0
      refine ⟨b, off, rfl, fun i hi => ?_, World.block_lt_of_cell? _ _ hc0⟩
      obtain ⟨h1, h2, h3, h4, _⟩ := hcell i hi
      rw [add_plain] at h1 h2 h3 h4
      rw [← Nat.add_assoc] at h2 h3 h4
      exact ⟨h1, h2, h3, h4⟩
theorem walk (a0 : Option Addr) (len0 cap0 : Nat) (a1 : Option Addr) (len1 cap1 : Nat) (w : World) (h0 : IsBoxes w a0 len0 cap0) (h1 : IsBoxes w a1 len1 cap1) :
    Calls Try.prog 6 #[.slice a0 len0 cap0, .slice a1 len1 cap1] w fun e w' => e = .returned (.bool true) ∧ Below w.heap.size w w' := by
  obtain ⟨B0, g0, r0, o0⟩ := any_of h0
  obtain ⟨B1, g1, r1, o1⟩ := any_of h1
  exact walk_any a0 len0 cap0 B0 a1 len1 cap1 B1 w g0 r0 o0 g1 r1 o1

set_option maxRecDepth 100000 in
theorem lifted (os : Os) (started : os.Started) (H : Type) (enc : TypeId × Value → H) :
    ReturnsInHanded {} Try.checked os 6 .any (Rows.sweepBetweenSpec.pre6 enc Try.prog Try.f6 Rows.sweepBetweenRow.domain false) (Rows.sweepBetweenSpec.post enc Try.prog Try.f6 false true false false) := by
  refine returnsInHanded_of_change_sized (C := Try.checked) own started (by kernel_rfl) Try.func6
    (ChangeSpec.witness6 (enc := enc) (C := Try.checked) false ⟨#[], #[.slice none 0 0, .slice none 0 0], []⟩ 8 (by kernel_rfl) (by kernel_rfl) (by kernel_rfl) (by kernel_rfl)) ?_
  intro W base args ds gs before hval0 hW hcnd hsz0 _
  have hsz : (DataW.weightsEach Try.prog (Try.f6.params.toList ++ Rows.sweepBetweenSpec.plain.varTypes Try.prog) (ds ++ gs)).all (· ≤ reachBytes) = true := hsz0
  have hval : ∀ (j : Nat) t v, Try.f6.params[j]? = some t → args[j]? = some v → Value.okWide Try.prog W .any base t v := hval0
  have hW' := hW
  obtain ⟨p, q, hA0, hV, rfl, hfz, hnd⟩ := hW
  have hA : DataW.TrodAll enc Try.prog W 0 (fun _ => true) true Try.f6.params.toList args.toList ds p := hA0
  rw [Try.params6] at hA hval hsz
  obtain ⟨v0, vs0, d0, ds0, p0, q0, hargs, rfl, rfl, h0, r0⟩ := trodAll_cons hA
  obtain ⟨v1, vs1, d1, ds1, p1, q1, rfl, rfl, rfl, h1, r1⟩ := trodAll_cons r0
  obtain ⟨rfl, rfl, rfl⟩ := trodAll_nil r1
  obtain rfl : args = #[v0, v1] := by cases args; simp_all
  obtain ⟨rfl, rfl⟩ := trodVars_none hV
  obtain ⟨a0, len0, cap0, rfl⟩ := okWide_slice Try.underlying22 (hval 0 22 v0 rfl rfl)
  obtain ⟨a1, len1, cap1, rfl⟩ := okWide_slice Try.underlying22 (hval 1 22 v1 rfl rfl)
  have k0 := h0
  have lt0 : ∀ x ∈ p0, x.block < W.heap.size := by obtain ⟨m, hm⟩ := k0; exact DataW.trod_lt m _ _ _ hm
  have w0 : IsBoxes W a0 len0 cap0 := by
    obtain ⟨fuel, hf⟩ := h0
    rcases Go.Deep.open_slice Try.underlying22 hf with ⟨hcs, _⟩ | ⟨x, l, c, m, n, D, Pl, hcs, _, hl, hm, hmm, hx, hcell⟩
    · simp [Value.cells] at hcs
      exact .inl hcs
    · simp [Value.cells] at hcs
      obtain ⟨rfl, rfl, rfl⟩ := hcs
      simp only [Prod.mk.injEq] at hx
      obtain ⟨rfl, rfl⟩ := hx
      have hr := sized_slice hsz (j := 0) (t := 22) (e := 27) rfl rfl Try.underlying22
      rw [show Try.prog.bytesOf 27 = 32 by kernel_rfl] at hr
      simp only [List.length_map, List.length_range, reachBytes] at hr
      have hlm : len0 ≤ m := by rw [hmm]; split <;> omega
      have V : ∀ i, ∃ q : Nat × Nat × Nat × Nat, i < m → W.cell? (x.add (i * 4)) = some (.float .f64 q.1) ∧ W.cell? (x.add (i * 4 + 1)) = some (.float .f64 q.2.1) ∧ W.cell? (x.add (i * 4 + 2)) = some (.float .f64 q.2.2.1) ∧ W.cell? (x.add (i * 4 + 3)) = some (.float .f64 q.2.2.2) ∧ okK .f64 q.1 ∧ okK .f64 q.2.1 ∧ okK .f64 q.2.2.1 ∧ okK .f64 q.2.2.2 := by
        intro i
        by_cases hi : i < m
        · obtain ⟨cs', h1, h2⟩ := hcell i hi
          rw [cellsM] at h1
          obtain ⟨_, hlen, hce⟩ := World.cells?_some h1
          obtain ⟨y0, y1, n', hx', _, g0, g1⟩ := trod_struct2 Try.underlying27 h2
          match cs', hlen with
          | [v0, v1, v2, v3], _ =>
            simp [cellsV] at g0 g1
            obtain ⟨z0, z1, n2, hz, _, g4, g5⟩ := trod_struct2 Try.underlying25 g0
            obtain ⟨z2, z3, n3, hz3, _, g6, g7⟩ := trod_struct2 Try.underlying25 g1
            simp [cellsF] at g4 g5 g6 g7
            obtain ⟨a, e0, _, wa⟩ := trod_fl Try.underlying23 g4
            obtain ⟨b, e1, _, wb⟩ := trod_fl Try.underlying23 g5
            obtain ⟨c, e2, _, wc⟩ := trod_fl Try.underlying23 g6
            obtain ⟨d, e3, _, wd⟩ := trod_fl Try.underlying23 g7
            simp at e0 e1 e2 e3
            subst e0 e1 e2 e3
            have q0 := hce 0 (by omega)
            have q1 := hce 1 (by omega)
            have q2 := hce 2 (by omega)
            have q3 := hce 3 (by omega)
            rw [Go.Deep.add_add] at q0 q1 q2 q3
            exact ⟨(a, b, c, d), fun _ => ⟨by simpa using q0, by simpa using q1, by simpa using q2, by simpa using q3, wf_f64 wa, wf_f64 wb, wf_f64 wc, wf_f64 wd⟩⟩
        · exact ⟨(0, 0, 0, 0), fun h => absurd h hi⟩
      have V' := Classical.axiomOfChoice V
      obtain ⟨f, hf'⟩ := V'
      exact .inr ⟨x, f, rfl, hl, hm, by omega, fun i hi => hf' i (by omega)⟩
  have k1 := h1
  have lt1 : ∀ x ∈ p1, x.block < W.heap.size := by obtain ⟨m, hm⟩ := k1; exact DataW.trod_lt m _ _ _ hm
  have w1 : IsBoxes W a1 len1 cap1 := by
    obtain ⟨fuel, hf⟩ := h1
    rcases Go.Deep.open_slice Try.underlying22 hf with ⟨hcs, _⟩ | ⟨x, l, c, m, n, D, Pl, hcs, _, hl, hm, hmm, hx, hcell⟩
    · simp [Value.cells] at hcs
      exact .inl hcs
    · simp [Value.cells] at hcs
      obtain ⟨rfl, rfl, rfl⟩ := hcs
      simp only [Prod.mk.injEq] at hx
      obtain ⟨rfl, rfl⟩ := hx
      have hr := sized_slice hsz (j := 1) (t := 22) (e := 27) rfl rfl Try.underlying22
      rw [show Try.prog.bytesOf 27 = 32 by kernel_rfl] at hr
      simp only [List.length_map, List.length_range, reachBytes] at hr
      have hlm : len1 ≤ m := by rw [hmm]; split <;> omega
      have V : ∀ i, ∃ q : Nat × Nat × Nat × Nat, i < m → W.cell? (x.add (i * 4)) = some (.float .f64 q.1) ∧ W.cell? (x.add (i * 4 + 1)) = some (.float .f64 q.2.1) ∧ W.cell? (x.add (i * 4 + 2)) = some (.float .f64 q.2.2.1) ∧ W.cell? (x.add (i * 4 + 3)) = some (.float .f64 q.2.2.2) ∧ okK .f64 q.1 ∧ okK .f64 q.2.1 ∧ okK .f64 q.2.2.1 ∧ okK .f64 q.2.2.2 := by
        intro i
        by_cases hi : i < m
        · obtain ⟨cs', h1, h2⟩ := hcell i hi
          rw [cellsM] at h1
          obtain ⟨_, hlen, hce⟩ := World.cells?_some h1
          obtain ⟨y0, y1, n', hx', _, g0, g1⟩ := trod_struct2 Try.underlying27 h2
          match cs', hlen with
          | [v0, v1, v2, v3], _ =>
            simp [cellsV] at g0 g1
            obtain ⟨z0, z1, n2, hz, _, g4, g5⟩ := trod_struct2 Try.underlying25 g0
            obtain ⟨z2, z3, n3, hz3, _, g6, g7⟩ := trod_struct2 Try.underlying25 g1
            simp [cellsF] at g4 g5 g6 g7
            obtain ⟨a, e0, _, wa⟩ := trod_fl Try.underlying23 g4
            obtain ⟨b, e1, _, wb⟩ := trod_fl Try.underlying23 g5
            obtain ⟨c, e2, _, wc⟩ := trod_fl Try.underlying23 g6
            obtain ⟨d, e3, _, wd⟩ := trod_fl Try.underlying23 g7
            simp at e0 e1 e2 e3
            subst e0 e1 e2 e3
            have q0 := hce 0 (by omega)
            have q1 := hce 1 (by omega)
            have q2 := hce 2 (by omega)
            have q3 := hce 3 (by omega)
            rw [Go.Deep.add_add] at q0 q1 q2 q3
            exact ⟨(a, b, c, d), fun _ => ⟨by simpa using q0, by simpa using q1, by simpa using q2, by simpa using q3, wf_f64 wa, wf_f64 wb, wf_f64 wc, wf_f64 wd⟩⟩
        · exact ⟨(0, 0, 0, 0), fun h => absurd h hi⟩
      have V' := Classical.axiomOfChoice V
      obtain ⟨f, hf'⟩ := V'
      exact .inr ⟨x, f, rfl, hl, hm, by omega, fun i hi => hf' i (by omega)⟩
  clear hA0 hval0 hsz0
  refine (walk a0 len0 cap0 a1 len1 cap1 W w0 w1).mono fun e W' ⟨he, bel0⟩ => ?_
  have bel := bel0
  subst he
  exact ⟨_, rfl, _, _, _, [], _, [], hW', trodAll_mk1 (shut_bool Try.underlying4 _), (trodAll_cons_mk (Below.trod laidOut (by kernel_rfl) (of_decide_eq_true (by kernel_rfl)) k0 bel lt0) (trodAll_cons_mk (Below.trod laidOut (by kernel_rfl) (of_decide_eq_true (by kernel_rfl)) k1 bel lt1) trodAll_mk0)), rfl, bel.frame _, fun h => by cases h⟩

theorem over : Rows.sweepBetweenRow.holds Try.pinned (OpenSpec.ofChange Rows.sweepBetweenSpec) :=
  OpenClaim.holds_of_wide 6 Try.f6 rfl rfl rfl rfl rfl rfl rfl ⟨rfl, rfl, rfl, rfl, rfl⟩ rfl rfl rfl rfl rfl (by kernel_rfl) Try.func6 (by kernel_rfl)
    (of_decide_eq_true (by kernel_rfl)) (by unfold Func.isWrapper; first | (rw [if_pos (by decide +kernel)]; kernel_rfl) | (rw [if_neg (by decide +kernel)]; exact ⟨rfl, rfl⟩))
    (fun os started H enc _ => lifted os started H enc)

theorem proved : Rows.SweepBetweenSaid :=
  over
#print axioms proved
end Go.Proofs.Ytkkncipimbpkkaa.sweepBetween
