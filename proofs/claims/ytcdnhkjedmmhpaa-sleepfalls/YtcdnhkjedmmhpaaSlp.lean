/-
  What each function of package poly answers, and what the reference of its chapter answers: one contract a function, for every float: the answer stands in the relation of its formula to what was given; of the memory that was there nothing has turned.
-/
import Derived.Test.YtcdnhkjedmmhpaaVec
import Derived.Test.YtcdnhkjedmmhpaaSlo
import Derived.Below
import Derived.WalkKit
import Derived.WalkLawsBesides
import Derived.WalkSpells
import Derived.ProofKit
import Derived.OpenShut
import Derived.Deep.RegionHeld3
namespace Go.Proofs.Ytcdnhkjedmmhpaa
open Go.ChangeShapes Go.WideShapes Go.ChangeAt Go.RowKit
set_option linter.unusedVariables false
set_option linter.unusedSimpArgs false


/-- the first awake again -/
def wokS (S : Nat → SL) : Nat → SL := fun i => if i = 0 then { S 0 with a := false, c := 0 } else S i
set_option maxRecDepth 100000 in
set_option maxHeartbeats 4000000 in
theorem wake_w (cs : Int) (g cap sn : Nat) (S : Nat → SL) (ib io im ic : Nat) (is_ : Option Addr) (w : World) (hgc : sn ≤ cap) (hcm : cap ≤ maxLen) (hs : Sls w g 0 sn S) (hgt : w.there g 0 (sn * 18)) (hi1 : im = 0 ∨ is_ = some ⟨ib, io, none⟩) (hic : im ≤ ic) (him : ic ≤ maxLen) (hin : Nts w ib io im) (him1 : 1 ≤ im) (hmn : im ≤ sn) (hsn : sn ≤ 1024) (hig : ib ≠ g) (hd0 : (S 0).a = true) (hup : ∀ i, 1 ≤ i → i < im → (S i).a = false) : Calls Try.prog 49 #[.agg #[.float .f64 0, .float .f64 0, .float .f64 0, .int .i64 0, .float .f64 0, .float .f64 0, .float .f64 0, .float .f64 4607182418800017408, .float .f64 4607182418800017408, .int .i64 cs, (.slice (some ⟨g, 0, none⟩) sn cap), .slice none 0 0, .slice none 0 0, .int .i64 0], .slice is_ im ic] w fun e w' => ∃ v, OwnR 5 (w.heap.size + 1) w' v 1 (evc 4 0) ∧ Sls w' g 0 sn (wokS S) ∧ w'.there g 0 (sn * 18) ∧ Fx [g] (w.alloc (.cells #[.float .f64 0, .float .f64 0, .float .f64 0, .int .i64 0, .float .f64 0, .float .f64 0, .float .f64 0, .float .f64 4607182418800017408, .float .f64 4607182418800017408, .int .i64 cs, (.slice (some ⟨g, 0, none⟩) sn cap), .slice none 0 0, .slice none 0 0, .int .i64 0] 31)) w' ∧ e = .returned v := by
  have hA : (w.alloc (.cells #[.float .f64 0, .float .f64 0, .float .f64 0, .int .i64 0, .float .f64 0, .float .f64 0, .float .f64 0, .float .f64 4607182418800017408, .float .f64 4607182418800017408, .int .i64 cs, (.slice (some ⟨g, 0, none⟩) sn cap), .slice none 0 0, .slice none 0 0, .int .i64 0] 31)).rangeAt w.heap.size 0 [.float .f64 0, .float .f64 0, .float .f64 0, .int .i64 0, .float .f64 0, .float .f64 0, .float .f64 0, .float .f64 4607182418800017408, .float .f64 4607182418800017408, .int .i64 cs, (.slice (some ⟨g, 0, none⟩) sn cap), .slice none 0 0, .slice none 0 0, .int .i64 0] := rng_new w [.float .f64 0, .float .f64 0, .float .f64 0, .int .i64 0, .float .f64 0, .float .f64 0, .float .f64 0, .float .f64 4607182418800017408, .float .f64 4607182418800017408, .int .i64 cs, (.slice (some ⟨g, 0, none⟩) sn cap), .slice none 0 0, .slice none 0 0, .int .i64 0] 31
  have k10 : (w.alloc (.cells #[.float .f64 0, .float .f64 0, .float .f64 0, .int .i64 0, .float .f64 0, .float .f64 0, .float .f64 0, .float .f64 4607182418800017408, .float .f64 4607182418800017408, .int .i64 cs, (.slice (some ⟨g, 0, none⟩) sn cap), .slice none 0 0, .slice none 0 0, .int .i64 0] 31)).cell? ⟨w.heap.size, 10, none⟩ = some ((.slice (some ⟨g, 0, none⟩) sn cap)) := by have h := hA 10 _ rfl; rwa [Nat.zero_add] at h
  have B0 : Bel w (w.alloc (.cells #[.float .f64 0, .float .f64 0, .float .f64 0, .int .i64 0, .float .f64 0, .float .f64 0, .float .f64 0, .float .f64 4607182418800017408, .float .f64 4607182418800017408, .int .i64 cs, (.slice (some ⟨g, 0, none⟩) sn cap), .slice none 0 0, .slice none 0 0, .int .i64 0] 31)) := bl_alloc (bl_refl w) _ _
  have hz : (w.alloc (.cells #[.float .f64 0, .float .f64 0, .float .f64 0, .int .i64 0, .float .f64 0, .float .f64 0, .float .f64 0, .float .f64 4607182418800017408, .float .f64 4607182418800017408, .int .i64 cs, (.slice (some ⟨g, 0, none⟩) sn cap), .slice none 0 0, .slice none 0 0, .int .i64 0] 31)).heap.size = w.heap.size + 1 := by simp only [World.size_alloc]
  unfold maxLen at hcm him
  clear hA
  go_enter Try.func49, Try.ntmps49
  repeat (first | go_values | go_skip | go_guarded | go_step | go_upon | go_back | dsimp only)
  go_loopw [11, 5] (fun i l wr => ∃ k : Nat, k ≤ im ∧ i = .int .i64 k ∧ ((k = 0 ∧ l = .slice none 0 0 ∧ Sls wr g 0 sn S) ∨ (1 ≤ k ∧ OwnR 5 (w.heap.size + 1) wr l 1 (evc 4 0) ∧ Sls wr g 0 sn (wokS S))) ∧ Fx [g] (w.alloc (.cells #[.float .f64 0, .float .f64 0, .float .f64 0, .int .i64 0, .float .f64 0, .float .f64 0, .float .f64 0, .float .f64 4607182418800017408, .float .f64 4607182418800017408, .int .i64 cs, (.slice (some ⟨g, 0, none⟩) sn cap), .slice none 0 0, .slice none 0 0, .int .i64 0] 31)) wr ∧ wr.there g 0 (sn * 18)) (fun i _ _ => im - (intOf i).toNat)
  case atStart => exact ⟨0, by omega, rfl, .inl ⟨rfl, rfl, hs.bel B0⟩, Fx.refl _ _, bel_there hgt B0⟩
  case round =>
    obtain ⟨k, hk, rfl, hV, hF, hT⟩ := hrel
    by_cases hlt : k < im
    · have e9 : is_ = some ⟨ib, io, none⟩ := by rcases hi1 with h | h; omega; exact h
      subst e9
      have hkI : (k : Int) < (im : Int) := by omega
      have hkC : (k : Int) < (ic : Int) := by omega
      have hkN : (k : Int) < (sn : Int) := by omega
      have hkS : (k : Int) < (cap : Int) := by omega
      have hgl := hs.lt (show k < sn by omega)
      have hgH : g ≠ w.heap.size := by omega
      have kk := hF.cell (by simpa using hig) ((hin.bel B0) k hlt)
      have kS := hF.cell (by simpa using hgH.symm) k10
      rcases hV with ⟨hk0, rfl, hS⟩ | ⟨hk1, hO, hS⟩
      · have k15 : wr.cell? ⟨g, 0 + k * 18 + 15, none⟩ = some (.bool true) := by
          have h := sl_cell hS (show k < sn by omega) 15 rfl
          rw [hk0, hd0] at h
          rw [hk0]
          exact h
        have k16 := sl_cell hS (show k < sn by omega) 16 rfl
        rw [Nat.zero_add] at k15 k16
        have fz : ∀ j, j < 18 → wr.frozen? ⟨g, k * 18 + j, none⟩ = false := fun j hj => by have h := (hT (k * 18 + j) (by omega)).2; rwa [Nat.zero_add] at h
        have f15 := fz 15 (by decide)
        have f16 := fz 16 (by decide)
        clear fz
        have u1 := sls_upd (S' := fun i => if i = k then { S k with a := false } else S i) (x := .bool false) hS (show k < sn by omega) (fun i hn => by simp only; rw [if_neg hn]) (by simp only [if_true]; rfl) (show k * 18 + 2 + 13 = k * 18 + 15 by omega) (by decide)
        have u2 := sls_upd (S' := wokS S) (x := .int .i64 0) u1 (show k < sn by omega) (fun i hn => by unfold wokS; simp only; rw [if_neg hn, if_neg (by omega)]) (by unfold wokS; subst hk0; simp only [if_true]; rfl) (show k * 18 + 2 + 14 = k * 18 + 16 by omega) (by decide)
        have hk9 : k < 1 := by omega
        clear hk0
        repeat (first | (go_at_call 81; (with_reducible refine (event_w 4 k _).mono ?_); rintro e w1 ⟨rfl, hb⟩) | (at_builtin; refine wpList_appS (P := Try.prog) (sz := 5) (by_ := 40) (R := []) (N := evc 4 k) 75 101 rfl _ _ rfl Try.underlying75 info_event rfl rfl _ 0 1 1 rfl (OwnR.nil 5 (w.heap.size + 1) _) rfl (rng_new w1 (evc 4 k) 101) (evc_one 4 k) (by decide) (by have h1 := hb.size; have h2 := hF.size; simp only [size_set, World.size_alloc] at h1 h2 ⊢; omega) (by unfold maxLen; omega) (by omega) ?_; intro v9 w9 hO9 hv9 hbX hoth hlow; have hb2 := bl_trans hb (bl_alloc (bl_refl w1) (evc 4 k).toArray 101); have hF2 := fx_app ((fx_set (fx_set hF (by simp)) (by simp)).trans (Fx.of_bel hb2)) (fun W0 h0 h1 => hbX W0 h0 (by simp only [World.size_alloc] at h1; omega)); have hL := hlow _ (Nat.le_refl _); have hS2 := sls_low (u2.bel hb2) hL (by omega); have hT2 := hF2.thr _ _ _ (bel_there hgt B0); clear hb2 hL hlow hbX hoth hb kS kk) | go_values | go_skip | go_guarded | go_step | go_upon | go_back | dsimp only)
        refine ⟨⟨k + 1, by omega, by go_num, .inr ⟨by omega, ?_, hS2⟩, hF2, hT2⟩, by simp [intOf]; omega⟩
        obtain rfl : k = 0 := by omega
        exact hO9
      · have k15 : wr.cell? ⟨g, 0 + k * 18 + 15, none⟩ = some (.bool false) := by
          have h := sl_cell hS (show k < sn by omega) 15 rfl
          unfold wokS at h
          rw [if_neg (by omega), hup k hk1 hlt] at h
          exact h
        rw [Nat.zero_add] at k15
        repeat (first | go_values | go_skip | go_guarded | go_step | go_upon | go_back | dsimp only)
        exact ⟨⟨k + 1, by omega, by go_num, .inr ⟨by omega, hO, hS⟩, hF, hT⟩, by simp [intOf]; omega⟩
    · have hnl : ¬ (k : Int) < (im : Int) := by omega
      have e9 : k = im := by omega
      subst e9
      rcases hV with ⟨hk0, _⟩ | ⟨hk1, hO, hS⟩
      · omega
      repeat (first | go_values | go_skip | go_guarded | go_step | go_upon | go_back | dsimp only)
      go_ret
      exact ⟨_, hO, hS, hT, hF, rfl⟩

end Go.Proofs.Ytcdnhkjedmmhpaa
