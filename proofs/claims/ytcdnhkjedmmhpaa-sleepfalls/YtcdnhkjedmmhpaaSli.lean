/-
  What each function of package poly answers, and what the reference of its chapter answers: one contract a function, for every float: the answer stands in the relation of its formula to what was given; of the memory that was there nothing has turned.
-/
import Derived.Test.YtcdnhkjedmmhpaaVec
import Derived.Test.YtcdnhkjedmmhpaaSlh
import Derived.Below
import Derived.WalkKit
import Derived.WalkLawsBesides
import Derived.WalkSpells
import Derived.ProofKit
import Derived.OpenShut
import Derived.Deep.RegionHeld3
namespace Go.Proofs.Ytcdnhkjedmmhpaa
open Go.ChangeShapes Go.WideShapes Go.ChangeAt Go.RowKit
set_option linter.unusedVariables false
set_option linter.unusedSimpArgs false


theorem cut_bel {a b : World} {F : List Nat} (h : Fx F a b) : Bel { b with heap := b.heap.extract 0 a.heap.size } b := by
  refine ⟨⟨rfl, rfl, rfl, by simp; omega, fun k hk => ?_⟩, fun x => ?_⟩
  · simp at hk
    rw [Array.getElem?_extract]
    simp
    omega
  · rcases Nat.lt_or_ge x.block a.heap.size with g | g
    · unfold World.frozen?
      simp only [Array.getElem?_extract]
      have g2 := h.size
      rw [if_pos (by omega)]
      simp
    · rw [h.froz x]
      unfold World.frozen?
      rw [Array.getElem?_eq_none (by omega)]
      rw [Array.getElem?_eq_none (by simp; omega)]
theorem fx_app {a b c : World} {F : List Nat} (h : Fx F a b) (hb : ∀ W0, Bel W0 b → W0.heap.size ≤ a.heap.size → Bel W0 c) : Fx F a c := by
  have g0 := cut_bel h
  have g1 := hb _ g0 (by simp; omega)
  have e : ∀ k, k < a.heap.size → c.heap[k]? = b.heap[k]? := fun k hk => by
    have h1 := h.size
    have hk2 : k < (b.heap.extract 0 a.heap.size).size := by simp; omega
    exact (g1.1.block k hk2).trans (g0.1.block k hk2).symm
  have f : ∀ x, c.frozen? x = b.frozen? x := fun x => (g1.2 x).trans (g0.2 x).symm
  refine ⟨g1.1.os.trans h.os, g1.1.tape.trans h.tape, g1.1.output.trans h.output, ?_, fun k hk hn => (e k hk).trans (h.block k hk hn), fun x => (f x).trans (h.froz x), fun q o n ht j hj => ?_⟩
  · rcases Nat.lt_or_ge c.heap.size a.heap.size with g | g
    · have h2 := e c.heap.size g
      rw [Array.getElem?_eq_none (Nat.le_refl _)] at h2
      have h3 := Array.getElem?_eq_none_iff.1 h2.symm
      have h4 := h.size
      omega
    · exact g
  · obtain ⟨t1, t2⟩ := h.thr q o n ht j hj
    obtain ⟨v, hv⟩ := Option.isSome_iff_exists.1 (ht j hj).1
    have hq := World.block_lt_of_cell? a _ hv
    refine ⟨?_, (f _).trans t2⟩
    have e1 := e q hq
    unfold World.cell? at t1 ⊢
    simp only [e1]
    exact t1
/-- the first so many fell asleep -/
def lulS (S : Nat → SL) (k : Nat) : Nat → SL := fun i => if i < k then { S i with a := true } else S i
def evc (kd : Int) (i : Nat) : List Value := [.int .u8 kd, .int .i64 (i : Int), .int .i64 0, .int .i64 0, .int .i64 0]
def evL (kd : Int) (n : Nat) : List Value := (List.range n).flatMap fun i => evc kd i
theorem evL_snoc (kd : Int) (n : Nat) : evL kd (n + 1) = evL kd n ++ evc kd n := by
  unfold evL; rw [List.range_succ, List.flatMap_append]; simp
theorem evc_one (kd : Int) (i : Nat) : ∀ u ∈ evc kd i, u.oneCell' = true := fun u hu => by
  unfold evc at hu
  simp only [List.mem_cons, List.not_mem_nil, or_false] at hu
  rcases hu with rfl | rfl | rfl | rfl | rfl <;> rfl
theorem sls_low {w w' : World} {B b o n : Nat} {S : Nat → SL} (h : Sls w b o n S) (g : Below B w w') (hb : b < B) : Sls w' b o n S := fun i hi j v hj => (g.cell hb).trans (h i hi j v hj)
theorem ownR_set {sz base g o : Nat} {w : World} {v x : Value} {n : Nat} {R : List Value} (h : OwnR sz base w v n R) (hg : g < base) : OwnR sz base (w.setCell ⟨g, o, none⟩ x) v n R := by
  refine ⟨h.1, ?_⟩
  rcases h.2 with h | ⟨k, cap, e, h1, h2, h3, h4, h5, h6⟩
  · exact .inl h
  · have far : ∀ q, (w.setCell ⟨g, o, none⟩ x).cell? ⟨k, q, none⟩ = w.cell? ⟨k, q, none⟩ := fun q => World.cell?_setCell_other _ _ _ _ (by intro e; injection e with e1; omega)
    exact .inr ⟨k, cap, e, h1, h2, h3, fun j u hj => (far _).trans (h4 j u hj), fun j hj => by rw [far]; exact h5 j hj, fun q => by rw [World.frozen?_setCell]; exact h6 q⟩
theorem sls_upd {W : World} {g n k j q : Nat} {S S' : Nat → SL} {x : Value} (h : Sls W g 0 n S) (hk : k < n) (he : ∀ i, i ≠ k → S' i = S i) (he2 : slc (S' k) = (slc (S k)).set j x) (hq : q = k * 18 + j) (hj : j < 18) : Sls (W.setCell ⟨g, q, none⟩ x) g 0 n S' := fun i hi c v hc => by
  have hc18 : c < 18 := (List.getElem?_eq_some_iff.1 hc).1
  rw [Nat.zero_add]
  by_cases e : i * 18 + c = q
  · have e1 : i = k := by omega
    have e2 : c = j := by omega
    subst e1 e2 hq
    have h0 := h i hk c _ (List.getElem?_eq_getElem (l := slc (S i)) (show c < (slc (S i)).length from hj))
    rw [Nat.zero_add] at h0
    rw [World.cell?_setCell_same _ _ _ h0]
    rw [he2, List.getElem?_set_self (show c < (slc (S i)).length from hj)] at hc
    exact hc
  · rw [World.cell?_setCell_other _ _ _ _ (by intro e9; injection e9 with e1 e2; omega)]
    have h0 : (slc (S i))[c]? = some v := by
      by_cases e1 : i = k
      · subst e1
        rw [he2, List.getElem?_set_ne (by omega)] at hc
        exact hc
      · rw [he i e1] at hc
        exact hc
    have h1 := h i hi c v h0
    rwa [Nat.zero_add] at h1
theorem fx_set {F : List Nat} {a b : World} {g o : Nat} {x : Value} (h : Fx F a b) (hg : g ∈ F) : Fx F a (b.setCell ⟨g, o, none⟩ x) := h.sets hg o [x]
theorem evL_len (kd : Int) : ∀ n, (evL kd n).length = n * 5
  | 0 => rfl
  | n + 1 => by rw [evL_snoc, List.length_append, evL_len kd n, show (evc kd n).length = 5 from rfl]; omega
set_option maxRecDepth 100000 in
set_option maxHeartbeats 4000000 in
theorem lull_w (cs : Int) (g cap sn : Nat) (S : Nat → SL) (ib io im ic : Nat) (is_ : Option Addr) (w : World) (hgc : sn ≤ cap) (hcm : cap ≤ maxLen) (hs : Sls w g 0 sn S) (hgt : w.there g 0 (sn * 18)) (hi1 : im = 0 ∨ is_ = some ⟨ib, io, none⟩) (hic : im ≤ ic) (him : ic ≤ maxLen) (hin : Nts w ib io im) (hmn : im ≤ sn) (hsn : sn ≤ 1024) (hig : ib ≠ g) (hup : ∀ i, i < im → (S i).a = false) : Calls Try.prog 53 #[.agg #[.float .f64 0, .float .f64 0, .float .f64 0, .int .i64 0, .float .f64 0, .float .f64 0, .float .f64 0, .float .f64 4607182418800017408, .float .f64 4607182418800017408, .int .i64 cs, (.slice (some ⟨g, 0, none⟩) sn cap), .slice none 0 0, .slice none 0 0, .int .i64 0], .slice is_ im ic] w fun e w' => ∃ v, OwnR 5 (w.heap.size + 1) w' v im (evL 3 im) ∧ Sls w' g 0 sn (lulS S im) ∧ w'.there g 0 (sn * 18) ∧ Fx [g] (w.alloc (.cells #[.float .f64 0, .float .f64 0, .float .f64 0, .int .i64 0, .float .f64 0, .float .f64 0, .float .f64 0, .float .f64 4607182418800017408, .float .f64 4607182418800017408, .int .i64 cs, (.slice (some ⟨g, 0, none⟩) sn cap), .slice none 0 0, .slice none 0 0, .int .i64 0] 31)) w' ∧ e = .returned v := by
  have hA : (w.alloc (.cells #[.float .f64 0, .float .f64 0, .float .f64 0, .int .i64 0, .float .f64 0, .float .f64 0, .float .f64 0, .float .f64 4607182418800017408, .float .f64 4607182418800017408, .int .i64 cs, (.slice (some ⟨g, 0, none⟩) sn cap), .slice none 0 0, .slice none 0 0, .int .i64 0] 31)).rangeAt w.heap.size 0 [.float .f64 0, .float .f64 0, .float .f64 0, .int .i64 0, .float .f64 0, .float .f64 0, .float .f64 0, .float .f64 4607182418800017408, .float .f64 4607182418800017408, .int .i64 cs, (.slice (some ⟨g, 0, none⟩) sn cap), .slice none 0 0, .slice none 0 0, .int .i64 0] := rng_new w [.float .f64 0, .float .f64 0, .float .f64 0, .int .i64 0, .float .f64 0, .float .f64 0, .float .f64 0, .float .f64 4607182418800017408, .float .f64 4607182418800017408, .int .i64 cs, (.slice (some ⟨g, 0, none⟩) sn cap), .slice none 0 0, .slice none 0 0, .int .i64 0] 31
  have k10 : (w.alloc (.cells #[.float .f64 0, .float .f64 0, .float .f64 0, .int .i64 0, .float .f64 0, .float .f64 0, .float .f64 0, .float .f64 4607182418800017408, .float .f64 4607182418800017408, .int .i64 cs, (.slice (some ⟨g, 0, none⟩) sn cap), .slice none 0 0, .slice none 0 0, .int .i64 0] 31)).cell? ⟨w.heap.size, 10, none⟩ = some ((.slice (some ⟨g, 0, none⟩) sn cap)) := by have h := hA 10 _ rfl; rwa [Nat.zero_add] at h
  have B0 : Bel w (w.alloc (.cells #[.float .f64 0, .float .f64 0, .float .f64 0, .int .i64 0, .float .f64 0, .float .f64 0, .float .f64 0, .float .f64 4607182418800017408, .float .f64 4607182418800017408, .int .i64 cs, (.slice (some ⟨g, 0, none⟩) sn cap), .slice none 0 0, .slice none 0 0, .int .i64 0] 31)) := bl_alloc (bl_refl w) _ _
  have hz : (w.alloc (.cells #[.float .f64 0, .float .f64 0, .float .f64 0, .int .i64 0, .float .f64 0, .float .f64 0, .float .f64 0, .float .f64 4607182418800017408, .float .f64 4607182418800017408, .int .i64 cs, (.slice (some ⟨g, 0, none⟩) sn cap), .slice none 0 0, .slice none 0 0, .int .i64 0] 31)).heap.size = w.heap.size + 1 := by simp only [World.size_alloc]
  unfold maxLen at hcm him
  clear hA
  go_enter Try.func53, Try.ntmps53
  repeat (first | go_values | go_skip | go_guarded | go_step | go_upon | go_back | dsimp only)
  go_loopw [11, 5] (fun i l wr => ∃ k : Nat, k ≤ im ∧ i = .int .i64 k ∧ OwnR 5 (w.heap.size + 1) wr l k (evL 3 k) ∧ Fx [g] (w.alloc (.cells #[.float .f64 0, .float .f64 0, .float .f64 0, .int .i64 0, .float .f64 0, .float .f64 0, .float .f64 0, .float .f64 4607182418800017408, .float .f64 4607182418800017408, .int .i64 cs, (.slice (some ⟨g, 0, none⟩) sn cap), .slice none 0 0, .slice none 0 0, .int .i64 0] 31)) wr ∧ Sls wr g 0 sn (lulS S k) ∧ wr.there g 0 (sn * 18)) (fun i _ _ => im - (intOf i).toNat)
  case atStart => exact ⟨0, by omega, rfl, OwnR.nil 5 _ _, Fx.refl _ _, fun i hi => by have h := hs.bel B0 i hi; unfold lulS; rw [if_neg (by omega)]; exact h, bel_there hgt B0⟩
  case round =>
    obtain ⟨k, hk, rfl, hO, hF, hS, hT⟩ := hrel
    by_cases hlt : k < im
    · have e9 : is_ = some ⟨ib, io, none⟩ := by rcases hi1 with h | h; omega; exact h
      subst e9
      have hkI : (k : Int) < (im : Int) := by omega
      have hkC : (k : Int) < (ic : Int) := by omega
      have hkN : (k : Int) < (sn : Int) := by omega
      have hkS : (k : Int) < (cap : Int) := by omega
      have hgl := hs.lt (show k < sn by omega)
      have hgH : g ≠ w.heap.size := by omega
      have kk := hF.cell (by simpa using hig) ((hin.bel B0) k hlt)
      have kS := hF.cell (by simpa using hgH.symm) k10
      have hc := fun (j : Nat) (v : Value) (h : (slc (lulS S k k))[j]? = some v) => sl_cell hS (show k < sn by omega) j h
      have k15 : wr.cell? ⟨g, 0 + k * 18 + 15, none⟩ = some (.bool false) := by
        have h := hc 15 _ rfl
        unfold lulS at h
        rw [if_neg (by omega), hup k hlt] at h
        exact h
      have k6 := hc 6 _ rfl
      have k7 := hc 7 _ rfl
      have k8 := hc 8 _ rfl
      rw [Nat.zero_add] at k15 k6 k7 k8
      have fz : ∀ j, j < 18 → wr.frozen? ⟨g, k * 18 + j, none⟩ = false := fun j hj => by have h := (hT (k * 18 + j) (by omega)).2; rwa [Nat.zero_add] at h
      have f15 := fz 15 (by decide)
      have f6 := fz 6 (by decide)
      have f7 := fz 7 (by decide)
      have f8 := fz 8 (by decide)
      clear fz hc
      repeat (first | (go_at_call 81; (with_reducible refine (event_w 3 k _).mono ?_); rintro e w1 ⟨rfl, hb⟩) | (at_builtin; refine wpList_appS (P := Try.prog) (sz := 5) (by_ := 40) (R := evL 3 k) (N := evc 3 k) 75 101 rfl _ _ rfl Try.underlying75 info_event rfl rfl _ 0 1 1 rfl (hO.bel (bl_trans hb (bl_alloc (bl_refl w1) _ _))) rfl (rng_new w1 (evc 3 k) 101) (evc_one 3 k) (by decide) (by have h1 := hb.size; have h2 := hF.size; simp only [World.size_alloc] at h2 ⊢; omega) (by unfold maxLen; omega) (by omega) ?_; intro v9 w9 hO9 hv9 hbX hoth hlow; obtain ⟨g9, c9, rfl, hg9⟩ := hv9; have hb2 := bl_trans hb (bl_alloc (bl_refl w1) (evc 3 k).toArray 101); have hF2 := fx_app (hF.trans (Fx.of_bel hb2)) (fun W0 h0 h1 => hbX W0 h0 (by simp only [World.size_alloc] at h1; omega)); have hL := hlow _ (Nat.le_refl _); have hS2 := sls_low (hS.bel hb2) hL (by omega); have hT2 := hF2.thr _ _ _ (bel_there hgt B0); replace k15 := (hL.cell (p := ⟨g, k * 18 + 15, none⟩) (by simp only; omega)).trans (keep hb2 k15); replace k6 := (hL.cell (p := ⟨g, k * 18 + 6, none⟩) (by simp only; omega)).trans (keep hb2 k6); replace k7 := (hL.cell (p := ⟨g, k * 18 + 7, none⟩) (by simp only; omega)).trans (keep hb2 k7); replace k8 := (hL.cell (p := ⟨g, k * 18 + 8, none⟩) (by simp only; omega)).trans (keep hb2 k8); replace f15 := ((hL.frozen (p := ⟨g, k * 18 + 15, none⟩) (by simp only; omega)).trans (hb2.2 _)).trans f15; replace f6 := ((hL.frozen (p := ⟨g, k * 18 + 6, none⟩) (by simp only; omega)).trans (hb2.2 _)).trans f6; replace f7 := ((hL.frozen (p := ⟨g, k * 18 + 7, none⟩) (by simp only; omega)).trans (hb2.2 _)).trans f7; replace f8 := ((hL.frozen (p := ⟨g, k * 18 + 8, none⟩) (by simp only; omega)).trans (hb2.2 _)).trans f8; clear hS hT hF hO hb2 hL hlow hbX hoth hb kS kk) | go_values | go_skip | go_guarded | go_step | go_upon | go_back | dsimp only)
      have u1 := sls_upd (S' := lulS S (k + 1)) (x := .bool true) hS2 (show k < sn by omega) (fun i hn => by unfold lulS; by_cases e : i < k; (rw [if_pos e, if_pos (by omega)]); (rw [if_neg e, if_neg (by omega)])) (by unfold lulS; rw [if_pos (by omega), if_neg (by omega)]; rfl) (show k * 18 + 2 + 13 = k * 18 + 15 by omega) (by decide)
      have u2 := sls_upd (x := .float .f64 0) u1 (show k < sn by omega) (fun i hn => rfl) (by rfl) (show k * 18 + 2 + 4 = k * 18 + 6 by omega) (by decide)
      have u3 := sls_upd (x := .float .f64 0) u2 (show k < sn by omega) (fun i hn => rfl) (by rfl) (show k * 18 + 2 + 4 + 1 = k * 18 + 7 by omega) (by decide)
      have u4 := sls_upd (x := .float .f64 0) u3 (show k < sn by omega) (fun i hn => rfl) (by rfl) (show k * 18 + 2 + 6 = k * 18 + 8 by omega) (by decide)
      refine ⟨⟨k + 1, by omega, by go_num, ?_, fx_set (fx_set (fx_set (fx_set hF2 (by simp)) (by simp)) (by simp)) (by simp), u4, there_set (there_set (there_set (there_set hT2)))⟩, by simp [intOf]; omega⟩
      rw [evL_snoc]
      exact ownR_set (ownR_set (ownR_set (ownR_set hO9 (by omega)) (by omega)) (by omega)) (by omega)
    · have hnl : ¬ (k : Int) < (im : Int) := by omega
      have e9 : k = im := by omega
      subst e9
      repeat (first | go_values | go_skip | go_guarded | go_step | go_upon | go_back | dsimp only)
      go_ret
      exact ⟨_, hO, hS, hT, hF, rfl⟩

end Go.Proofs.Ytcdnhkjedmmhpaa
