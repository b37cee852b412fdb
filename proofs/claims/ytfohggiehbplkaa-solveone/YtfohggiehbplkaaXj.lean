/-
  What each function of package poly answers, and what the reference of its chapter answers: one contract a function, for every float: the answer stands in the relation of its formula to what was given; of the memory that was there nothing has turned.
-/
import Derived.Test.YtfohggiehbplkaaVec
import Derived.Test.YtfohggiehbplkaaXi
import Derived.Below
import Derived.OwnWalk
import Derived.Laws.AppendOwn
import Derived.Lib.SliceRun
import Derived.Laws.MakeOwn
import Derived.WalkKit
import Derived.WalkLawsBesides
import Derived.WalkSpells
import Derived.ProofKit
import Derived.OpenShut
import Derived.Deep.RegionHeld3
namespace Go.Proofs.Ytfohggiehbplkaa
open Go.ChangeShapes Go.WideShapes Go.ChangeAt Go.RowKit
set_option linter.unusedVariables false
set_option linter.unusedSimpArgs false


theorem most_two (a b : Nat) : mostK .f64 a b = a ∨ mostK .f64 a b = b := by unfold mostK; split <;> simp
theorem most_bits (a b : Nat) : bitsK (mostK .f64 a b) = mostK .f64 (bitsK a) (bitsK b) := by
 cases ha : nanK .f64 a
 ·rw [bits_num ha]
  cases hb : nanK .f64 b
  ·rw [bits_num hb]
   rcases most_two a b with h | h <;> rw [h]
   ·exact bits_num ha
   ·exact bits_num hb
  ·have e : ∀ x, nanK .f64 x = true → mostK .f64 a x = a := fun x hx => by
    have h1 : ltK .f64 a x = false := by unfold ltK; rw [hx]; simp
    have h2 : decide (rgK .f64 x = 0) = false := by
     rw [nanK_eq, inf64] at hx
     have := of_decide_eq_true hx
     exact decide_eq_false (by omega)
    unfold mostK
    rw [ha, h1, h2]
    simp
   rw [e b hb, e (bitsK b) (by rw [bits_nan hb]; decide +kernel), bits_num ha]
 ·have e : ∀ x y, nanK .f64 x = true → mostK .f64 x y = y := fun x y hx => by unfold mostK; rw [hx]; simp
  rw [e a b ha, e (bitsK a) _ (by rw [bits_nan ha]; decide +kernel)]
theorem most_isF {a b A B : Nat} (h : isF a A) (g : isF b B) : isF (mostK .f64 a b) (mostK .f64 A B) :=
 ⟨by rcases most_two a b with e | e <;> rw [e]; exact h.1; exact g.1, by rw [most_bits, h.2, g.2]⟩
/-- how far rows are off at the most -/
def leM (Q : Nat → RD) (S : Nat → SD) : Nat → Nat
 | 0 => 0
 | k + 1 => mostK .f64 (leM Q S k) (offF (Q k) (S (Q k).ra.toNat) (S (Q k).rb.toNat))
set_option maxRecDepth 100000 in
set_option maxHeartbeats 4000000 in
theorem left_ok (rb ro rn rc_ : Nat) (rs : Option Addr) (Q : Nat → RD) (sb so sn sc_ : Nat) (ss : Option Addr) (S : Nat → SD) (w : World) (hrs : rn = 0 ∨ rs = some ⟨rb, ro, none⟩) (hrc : rn ≤ rc_) (hrm : rc_ ≤ maxLen) (hr : Rws w rb ro rn Q) (or_ : ∀ i, i < rn → rok (Q i)) (hss : sn = 0 ∨ ss = some ⟨sb, so, none⟩) (hsc : sn ≤ sc_) (hsm : sc_ ≤ maxLen) (hs : Sts w sb so sn S) (os : ∀ i, i < sn → sok (S i)) (he : asE Q rn S sn = 0) : Calls Try.prog 33 #[.slice rs rn rc_, .slice ss sn sc_] w fun e w' => ∃ x, isF x (leM Q S rn) ∧ e = .returned (.tuple #[.float .f64 x, .int .i64 0]) ∧ Bel w w' := by
 obtain ⟨hl1, hl2, hch, hst⟩ := asE_zero he
 have hX : (w.alloc (.cells #[.slice none 0 0, .slice none 0 0] 116)).there w.heap.size 0 2 := there_new w [.slice none 0 0, .slice none 0 0] 116
 have hT : ((w.alloc (.cells #[.slice none 0 0, .slice none 0 0] 116)).setCells w.heap.size 0 [.slice rs rn rc_, .slice ss sn sc_]).rangeAt w.heap.size 0 [.slice rs rn rc_, .slice ss sn sc_] := World.rangeAt_setCells_same _ _ _ _ hX
 have B0 : Bel w ((w.alloc (.cells #[.slice none 0 0, .slice none 0 0] 116)).setCells w.heap.size 0 [.slice rs rn rc_, .slice ss sn sc_]) := bel_setsJ _ _ (bl_alloc (bl_refl _) _ _) (Nat.le_refl _)
 have hzT : w.heap.size < ((w.alloc (.cells #[.slice none 0 0, .slice none 0 0] 116)).setCells w.heap.size 0 [.slice rs rn rc_, .slice ss sn sc_]).heap.size := by rw [size_setsJ, World.size_alloc]; omega
 go_enter Try.func33, Try.ntmps33
 repeat (first | ((with_reducible show Oper.wp _ ⟨_, Op.build 116 _, _, _, _, _⟩ _ _ _ _); refine wp_build 116 _ rfl (.agg #[.slice rs rn rc_, .slice ss sn sc_]) (by kernel_rfl) ?_; simp only [go_sem]) | ((with_reducible show Oper.wp _ ⟨_, Op.store 116 _ _, _, _, _, _⟩ _ _ _ _); refine wp_store_mid (P := Try.prog) 116 _ _ rfl (w.heap.size) (0) #[.slice rs rn rc_, .slice ss sn sc_] rfl rfl hX (by kernel_rfl) (by kernel_rfl) ?_; simp only [go_sem]) | (with_reducible show Oper.wp _ _ _ _ _ _; refine wp_load_mid (P := Try.prog) 116 _ rfl (w.heap.size) 0 rfl [.slice rs rn rc_, .slice ss sn sc_] _ (by with_reducible assumption) Try.underlying116 rfl (by kernel_rfl) ?_; simp only [go_sem]) | (go_at_call 71; (with_reducible refine (check_t rb ro rn rc_ rs Q sb so sn sc_ ss S _ hrs hrc hrm (hr.bel B0) or_ hss hsc hsm (hs.bel B0) os).mono ?_); rintro e w1 ⟨rfl, hb⟩; rw [he]; have B1 := bl_trans B0 hb; have hT1 := rng_bel hT hb) | go_values | go_skip | go_guarded | go_step | go_upon | go_back | dsimp only)
 go_loopw [21, 8] (fun i m wr => ∃ (k : Nat) (x : Nat), k ≤ rn ∧ i = .int .i64 k ∧ m = .float .f64 x ∧ isF x (leM Q S k) ∧ Bel w1 wr) (fun i _ _ => rn - (intOf i).toNat)
 case atStart => exact ⟨0, 0, by omega, rfl, rfl, isF_zero, bl_refl _⟩
 case round =>
  obtain ⟨k, x, hk, rfl, rfl, hx, hB⟩ := hrel
  by_cases hlt : k < rn
  ·have e9 : rs = some ⟨rb, ro, none⟩ := by rcases hrs with h | h; omega; exact h
   subst e9
   have hc := hch k hlt
   unfold chB at hc
   simp only [Bool.and_eq_true, decide_eq_true_eq] at hc
   obtain ⟨hmay, hc1, hc2, hc3⟩ := hc
   have hA0 : 0 ≤ (Q k).ra := by unfold mayB at hmay; simp only [Bool.and_eq_true, decide_eq_true_eq] at hmay; exact hmay.1
   have hB0 : 0 ≤ (Q k).rb := by unfold mayB at hmay; simp only [Bool.and_eq_true, decide_eq_true_eq] at hmay; exact hmay.2.1
   have e10 : ss = some ⟨sb, so, none⟩ := by rcases hss with h | h; omega; exact h
   subst e10
   have hal : alB (Q k) (S (Q k).ra.toNat) (S (Q k).rb.toNat) = true := by unfold alB; rw [hmay, hst _ (by omega), hst _ (by omega)]; rfl
   have hld : wr.rangeAt rb (ro + k * 14) [.int .i64 (Q k).ra, .int .i64 (Q k).rb, .float .f64 (Q k).r2, .float .f64 (Q k).r3, .float .f64 (Q k).r4, .float .f64 (Q k).r5, .float .f64 (Q k).r6, .float .f64 (Q k).r7, .float .f64 (Q k).r8, .float .f64 (Q k).r9, .float .f64 (Q k).r10, .float .f64 (Q k).r11, .int .i64 (Q k).ro, .float .f64 (Q k).r13] := ((hr.bel B1).bel hB) k hlt
   have hkI : (k : Int) < (rn : Int) := by omega
   have hX9 : (wr.alloc (.cells #[.int .i64 0, .int .i64 0, .float .f64 0, .float .f64 0, .float .f64 0, .float .f64 0, .float .f64 0, .float .f64 0, .float .f64 0, .float .f64 0, .float .f64 0, .float .f64 0, .int .i64 0, .float .f64 0] 43)).there wr.heap.size 0 14 := there_new wr [.int .i64 0, .int .i64 0, .float .f64 0, .float .f64 0, .float .f64 0, .float .f64 0, .float .f64 0, .float .f64 0, .float .f64 0, .float .f64 0, .float .f64 0, .float .f64 0, .int .i64 0, .float .f64 0] 43
   have hY : ((wr.alloc (.cells #[.int .i64 0, .int .i64 0, .float .f64 0, .float .f64 0, .float .f64 0, .float .f64 0, .float .f64 0, .float .f64 0, .float .f64 0, .float .f64 0, .float .f64 0, .float .f64 0, .int .i64 0, .float .f64 0] 43)).setCells wr.heap.size 0 [.int .i64 (Q k).ra, .int .i64 (Q k).rb, .float .f64 (Q k).r2, .float .f64 (Q k).r3, .float .f64 (Q k).r4, .float .f64 (Q k).r5, .float .f64 (Q k).r6, .float .f64 (Q k).r7, .float .f64 (Q k).r8, .float .f64 (Q k).r9, .float .f64 (Q k).r10, .float .f64 (Q k).r11, .int .i64 (Q k).ro, .float .f64 (Q k).r13]).rangeAt wr.heap.size 0 [.int .i64 (Q k).ra, .int .i64 (Q k).rb, .float .f64 (Q k).r2, .float .f64 (Q k).r3, .float .f64 (Q k).r4, .float .f64 (Q k).r5, .float .f64 (Q k).r6, .float .f64 (Q k).r7, .float .f64 (Q k).r8, .float .f64 (Q k).r9, .float .f64 (Q k).r10, .float .f64 (Q k).r11, .int .i64 (Q k).ro, .float .f64 (Q k).r13] := World.rangeAt_setCells_same _ _ _ _ hX9
   have hB2 : Bel wr ((wr.alloc (.cells #[.int .i64 0, .int .i64 0, .float .f64 0, .float .f64 0, .float .f64 0, .float .f64 0, .float .f64 0, .float .f64 0, .float .f64 0, .float .f64 0, .float .f64 0, .float .f64 0, .int .i64 0, .float .f64 0] 43)).setCells wr.heap.size 0 [.int .i64 (Q k).ra, .int .i64 (Q k).rb, .float .f64 (Q k).r2, .float .f64 (Q k).r3, .float .f64 (Q k).r4, .float .f64 (Q k).r5, .float .f64 (Q k).r6, .float .f64 (Q k).r7, .float .f64 (Q k).r8, .float .f64 (Q k).r9, .float .f64 (Q k).r10, .float .f64 (Q k).r11, .int .i64 (Q k).ro, .float .f64 (Q k).r13]) := bel_setsJ _ _ (bl_alloc (bl_refl _) _ _) (Nat.le_refl _)
   have hT9 := rng_bel (rng_bel hT1 hB) hB2
   have hs9 := (((hs.bel B1).bel hB).bel hB2)
   have okk := or_ k hlt
   repeat (first | (with_reducible show Oper.wp _ _ _ _ _ _; refine wp_load_mid (P := Try.prog) 43 _ rfl (wr.heap.size) 0 rfl [.int .i64 (Q k).ra, .int .i64 (Q k).rb, .float .f64 (Q k).r2, .float .f64 (Q k).r3, .float .f64 (Q k).r4, .float .f64 (Q k).r5, .float .f64 (Q k).r6, .float .f64 (Q k).r7, .float .f64 (Q k).r8, .float .f64 (Q k).r9, .float .f64 (Q k).r10, .float .f64 (Q k).r11, .int .i64 (Q k).ro, .float .f64 (Q k).r13] _ (by with_reducible assumption) Try.underlying43 rfl (by kernel_rfl) ?_; simp only [go_sem]) | (with_reducible show Oper.wp _ _ _ _ _ _; refine wp_load_mid (P := Try.prog) 116 _ rfl (w.heap.size) 0 rfl [.slice (some ⟨rb, ro, none⟩) rn rc_, .slice (some ⟨sb, so, none⟩) sn sc_] _ (by with_reducible assumption) Try.underlying116 rfl (by kernel_rfl) ?_; simp only [go_sem]) | ((with_reducible show Oper.wp _ ⟨_, Op.load 43 _, _, _, _, _⟩ _ _ _ _); refine wp_load_mid (P := Try.prog) 43 _ rfl _ _ rfl [.int .i64 (Q k).ra, .int .i64 (Q k).rb, .float .f64 (Q k).r2, .float .f64 (Q k).r3, .float .f64 (Q k).r4, .float .f64 (Q k).r5, .float .f64 (Q k).r6, .float .f64 (Q k).r7, .float .f64 (Q k).r8, .float .f64 (Q k).r9, .float .f64 (Q k).r10, .float .f64 (Q k).r11, .int .i64 (Q k).ro, .float .f64 (Q k).r13] _ hld Try.underlying43 rfl (by kernel_rfl) ?_; simp only [go_sem]) | ((with_reducible show Oper.wp _ ⟨_, Op.store 43 _ _, _, _, _, _⟩ _ _ _ _); refine wp_store_mid (P := Try.prog) 43 _ _ rfl (wr.heap.size) (0) #[.int .i64 (Q k).ra, .int .i64 (Q k).rb, .float .f64 (Q k).r2, .float .f64 (Q k).r3, .float .f64 (Q k).r4, .float .f64 (Q k).r5, .float .f64 (Q k).r6, .float .f64 (Q k).r7, .float .f64 (Q k).r8, .float .f64 (Q k).r9, .float .f64 (Q k).r10, .float .f64 (Q k).r11, .int .i64 (Q k).ro, .float .f64 (Q k).r13] rfl rfl hX9 (by kernel_rfl) (by kernel_rfl) ?_; simp only [go_sem]) | (go_at_call 79; (with_reducible refine (off_w (Q k) _ sb so sn sc_ S _ rfl okk hsc hsm hs9 os hA0 hc1 hB0 hc2 hal).mono ?_); rintro e w5 ⟨r, hr5, rfl, hb5⟩) | (go_at_call 78; (with_reducible refine (most_6 _ _ _).mono ?_); rintro e w6 ⟨rfl, rfl⟩) | go_values | go_skip | go_guarded | go_step | go_upon | go_back | dsimp only)
   exact ⟨⟨k + 1, _, by omega, by go_num, rfl, most_isF hx hr5, bl_trans (bl_trans hB hB2) hb5⟩, by simp [intOf]; omega⟩
  ·have hkn : k = rn := by omega
   subst hkn
   repeat (first | go_values | go_skip | go_guarded | go_step | go_upon | go_back | dsimp only)
   refine bodyPost_ret (v := .tuple #[.float .f64 x, .int .i64 0]) (by kernel_rfl) rfl ?_
   exact ⟨x, hx, rfl, bl_trans B1 hB⟩

end Go.Proofs.Ytfohggiehbplkaa
