/-
  What each function of package poly answers, and what the reference of its chapter answers: one contract a function, for every float: the answer stands in the relation of its formula to what was given; of the memory that was there nothing has turned.
-/
import Derived.Test.YtmbegpjgfojniaaVec
import Derived.Test.YtmbegpjgfojniaaWo
import Derived.Test.YtmbegpjgfojniaaWf
import Derived.Below
import Derived.WalkKit
import Derived.WalkLawsBesides
import Derived.WalkSpells
import Derived.ProofKit
import Derived.OpenShut
import Derived.Deep.RegionHeld3
namespace Go.Proofs.Ytmbegpjgfojniaa
open Go.ChangeShapes Go.WideShapes Go.ChangeAt Go.RowKit
set_option linter.unusedVariables false
set_option linter.unusedSimpArgs false


theorem us_bits {x : Nat} (h : Us x) : bitsK x = x := bits_num (fin_nan h.bd.2.1)
theorem us_pos {m : Nat} (h : Us m) (m0 : leK .f64 0 m = true) : 0 ≤ rv m := by
  have h1 := (le_rv (by decide +kernel) (fin_nan h.bd.2.1)).1 m0
  have h2 : rv 0 = 0 := by decide +kernel
  rwa [h2] at h1
theorem nr_x {m p g x x1 x2 : Nat} (hm : Us m) (hp : Us p) (hg : Us g) (hx : Us x) (m0 : leK .f64 0 m = true) (h1 : isF x1 (puX m x g (bitsK p))) (h2 : isF x2 (puX m x1 g (bitsK (Op.negFloat .f64 p)))) : Bd 134 x2 ∧ nrW x2 x (oF .add (rgK .f64 x) (oF .mul (oF .mul m (rgK .f64 p)) (rgK .f64 g))) = true := by
  obtain ⟨nb, nr⟩ := neg_bd hp.bd
  have en : bitsK (Op.negFloat .f64 p) = Op.negFloat .f64 p := bits_num (fin_nan nb.2.1)
  unfold puX at h1 h2
  rw [us_bits hm, us_bits hp, us_bits hg, us_bits hx] at h1
  rw [us_bits hm, en, us_bits hg] at h2
  cases hl : ltK .f64 0 m
  · rw [hl] at h1 h2
    simp only [Bool.false_eq_true, if_false] at h1 h2
    have e1 := bd_word h1 hx.bd
    subst e1
    rw [us_bits hx] at h2
    have e2 := bd_word h2 hx.bd
    subst e2
    exact ⟨bd_mono hx.bd (by omega), back_not (us_pos hm m0) hm hp hg hx⟩
  · rw [hl] at h1 h2
    simp only [if_true] at h1 h2
    have k1 := (p3_bd hm.bd hp.bd hg.bd).1
    have k2 := (p3_bd hm.bd nb hg.bd).1
    obtain ⟨b1, b2⟩ := bk_bd hx.bd k1 k2
    have e1 := bd_word h1 b1
    subst e1
    rw [bits_num (fin_nan b1.2.1)] at h2
    have e2 := bd_word h2 b2
    rw [e2]
    exact ⟨b2, back_way (us_pos hm m0) hm hp hg hx⟩
theorem nr_t {m p g x x1 x2 : Nat} (hm : Us m) (hp : Us p) (hg : Us g) (hx : Us x) (m0 : leK .f64 0 m = true) (h1 : isF x1 (puT m x g (bitsK p))) (h2 : isF x2 (puT m x1 g (bitsK (Op.negFloat .f64 p)))) : Bd 134 x2 ∧ nrW x2 x (oF .add (rgK .f64 x) (oF .mul (oF .mul m (rgK .f64 p)) (rgK .f64 g))) = true := by
  obtain ⟨nb, nr⟩ := neg_bd hp.bd
  have en : bitsK (Op.negFloat .f64 p) = Op.negFloat .f64 p := bits_num (fin_nan nb.2.1)
  unfold puT at h1 h2
  rw [us_bits hm, us_bits hp, us_bits hg, us_bits hx] at h1
  rw [us_bits hm, en, us_bits hg] at h2
  cases hl : ltK .f64 0 m
  · rw [hl] at h1 h2
    simp only [Bool.false_eq_true, if_false] at h1 h2
    have e1 := bd_word h1 hx.bd
    subst e1
    rw [us_bits hx] at h2
    have e2 := bd_word h2 hx.bd
    subst e2
    exact ⟨bd_mono hx.bd (by omega), back_not (us_pos hm m0) hm hp hg hx⟩
  · rw [hl] at h1 h2
    simp only [if_true] at h1 h2
    have k1 := (p3_bd hp.bd hg.bd hm.bd).2
    have k2 := (p3_bd nb hg.bd hm.bd).2
    obtain ⟨b1, b2⟩ := bk_bd hx.bd k1 k2
    have e1 := bd_word h1 b1
    subst e1
    rw [bits_num (fin_nan b1.2.1)] at h2
    have e2 := bd_word h2 b2
    rw [e2]
    exact ⟨b2, back_spin (us_pos hm m0) hm hp hg hx⟩
theorem zero_bd40 : Bd 40 0 := ⟨ok_zero, by decide +kernel, by decide +kernel⟩
theorem zr_x {m g x x3 : Nat} (hm : Us m) (hg : Us g) (hx : Us x) (h : isF x3 (puX m x g (bitsK 0))) : eqK .f64 x3 x = true := by
  unfold puX at h
  rw [us_bits hm, bits_zero, us_bits hg, us_bits hx] at h
  cases hl : ltK .f64 0 m
  · rw [hl] at h
    simp only [Bool.false_eq_true, if_false] at h
    rw [bd_word h hx.bd, eqK_self, fin_nan hx.bd.2.1]; rfl
  · rw [hl] at h
    simp only [if_true] at h
    have k1 := (p3_bd hm.bd zero_bd40 hg.bd).1
    have b1 := (bk_bd hx.bd k1 k1).1
    rw [bd_word h b1]
    have r0 : rv 0 = 0 := by decide +kernel
    have z1 := mul_z hm.bd zero_bd40 (by omega) (by rw [r0]; grind)
    exact push_z hx k1 (mul_z (mul_o hm.bd zero_bd40 (by omega)).1 hg.bd (by omega) (by rw [z1]; grind))
theorem zr_t {m g x x3 : Nat} (hm : Us m) (hg : Us g) (hx : Us x) (h : isF x3 (puT m x g (bitsK 0))) : eqK .f64 x3 x = true := by
  unfold puT at h
  rw [us_bits hm, bits_zero, us_bits hg, us_bits hx] at h
  cases hl : ltK .f64 0 m
  · rw [hl] at h
    simp only [Bool.false_eq_true, if_false] at h
    rw [bd_word h hx.bd, eqK_self, fin_nan hx.bd.2.1]; rfl
  · rw [hl] at h
    simp only [if_true] at h
    have k1 := (p3_bd zero_bd40 hg.bd hm.bd).2
    have b1 := (bk_bd hx.bd k1 k1).1
    rw [bd_word h b1]
    have r0 : rv 0 = 0 := by decide +kernel
    have z1 := mul_z zero_bd40 hg.bd (by omega) (by rw [r0]; grind)
    exact push_z hx k1 (mul_z hm.bd (mul_o zero_bd40 hg.bd (by omega)).1 (by omega) (by rw [z1]; grind))
theorem run_mul_o (t : TypeId) {m n x y : Nat} (w : World) (hx : Bd m x) (hy : Bd n y) (hn : m + n ≤ 900) : (binOp .mul t (.float .f64 x) (.float .f64 y)).run Try.prog w = .ok (.float .f64 (oF .mul x y)) w := by
  rw [run_mul_dv _ _ _ _ _ hx.2.1 hy.2.1, oF_dv (some_mul hx.2.1 hy.2.1) (bd_mul hx hy hn)]
theorem run_add_o (t : TypeId) {n x y : Nat} (w : World) (hx : Bd n x) (hy : Bd n y) (hn : n ≤ 900) : (binOp .add t (.float .f64 x) (.float .f64 y)).run Try.prog w = .ok (.float .f64 (oF .add x y)) w := by
  rw [run_add_dv _ _ _ _ _ hx.2.1 hy.2.1, oF_dv (some_add hx.2.1 hy.2.1) (bd_add hx hy hn)]
/-- what one word of a still comes back to, as the law asks it -/
def ofW (x m p g : Nat) : Nat := oF .add (rgK .f64 x) (oF .mul (oF .mul m (rgK .f64 p)) (rgK .f64 g))
theorem of_runs (t : TypeId) {x m p g : Nat} (hm : Us m) (hp : Us p) (hg : Us g) (hx : Us x) : (∀ w, (binOp .mul t (.float .f64 m) (.float .f64 (rgK .f64 p))).run Try.prog w = .ok (.float .f64 (oF .mul m (rgK .f64 p))) w) ∧ (∀ w, (binOp .mul t (.float .f64 (oF .mul m (rgK .f64 p))) (.float .f64 (rgK .f64 g))).run Try.prog w = .ok (.float .f64 (oF .mul (oF .mul m (rgK .f64 p)) (rgK .f64 g))) w) ∧ (∀ w, (binOp .add t (.float .f64 (rgK .f64 x)) (.float .f64 (oF .mul (oF .mul m (rgK .f64 p)) (rgK .f64 g)))).run Try.prog w = .ok (.float .f64 (ofW x m p g)) w) ∧ Bd 140 (ofW x m p g) := by
  have b1 := (mul_o hm.bd (rg_bd hp.bd) (by omega)).1
  have b2 := (mul_o b1 (rg_bd hg.bd) (by omega)).1
  have b3 := add_oB (bd_mono (rg_bd hx.bd) (show 40 ≤ 130 by omega)) (bd_mono b2 (show _ ≤ 130 by omega)) (by omega)
  exact ⟨fun w => run_mul_o t w hm.bd (rg_bd hp.bd) (by omega), fun w => run_mul_o t w b1 (rg_bd hg.bd) (by omega), fun w => run_add_o t w (bd_mono (rg_bd hx.bd) (show 40 ≤ 130 by omega)) (bd_mono b2 (show _ ≤ 130 by omega)) (by omega), bd_mono b3.1 (by omega)⟩
theorem calls_belz {P : Program} {f : FuncId} {args : Array Value} {W : World} {p : BelBy W} {v : Value}
    (h : Calls P f args p.world fun e w' => e = .returned v ∧ w' = p.world) : Calls P f args p.world fun e w'' => e = .returned v ∧ ∃ q : BelBy W, w'' = q.world :=
  h.mono fun _ w' ⟨he, hb⟩ => ⟨he, p, hb⟩
theorem nearly_t {x x2 m p g : Nat} (w : World) (hx : Us x) (h : Bd 134 x2 ∧ nrW x2 x (ofW x m p g) = true) (ho : Bd 140 (ofW x m p g)) : Calls Try.prog 13 #[.float .f64 x2, .float .f64 x, .float .f64 (ofW x m p g)] w fun e w' => e = .returned (.bool true) ∧ Bel w w' :=
  (nearly_w w h.1 (bd_mono hx.bd (by omega)) (by omega) ho (by omega)).mono fun e w' ⟨he, hb⟩ => ⟨by rw [he, h.2], hb⟩

theorem run_nev20 {ax ay bx b_y : Nat} (W : World) (h1 : eqK .f64 ax bx = true) (h2 : eqK .f64 ay b_y = true) : (binOp .neq 24 (.agg #[.float .f64 ax, .float .f64 ay]) (.agg #[.float .f64 bx, .float .f64 b_y])).run Try.prog W = .ok (.bool false) W := by
  have c1 := cmp_eq .f64
  have q1 := fun (x y : Nat) (w : World) => run_equalIn_float Try.prog w 22 .f64 x y Try.underlying22
  have q3 := fun (d x y : Nat) (w : World) => run_equalIn_fl Try.prog w d 22 .f64 x y Try.underlying22
  have q4 := fun (x y : Nat) (w : World) => run_equalIn_fl Try.prog w 9997 22 .f64 x y Try.underlying22
  simp [go_sem, q1, q3, q4, h1, h2]

end Go.Proofs.Ytmbegpjgfojniaa
