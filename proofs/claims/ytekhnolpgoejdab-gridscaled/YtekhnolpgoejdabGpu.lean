/-
  Plain facts on floats, more: rounding to the nearest rung, sums and products of finite floats, signs turned. No program is named here.
-/
import Derived.Test.YtekhnolpgoejdabGwd
namespace Go.Proofs.Ytekhnolpgoejdab
open Ieee Go.RowKit
set_option linter.unusedSimpArgs false
set_option linter.unusedVariables false

/-! ### A place lies in its cell, where the width is a power of two -/
theorem wd_mg_all : (List.range 71).all (fun k => mg (wdW k) == 2 ^ (1044 + k) && finK .f64 (wdW k) && !ngK .f64 (wdW k) && mayW (wdW k)) = true := by decide +kernel
theorem wd_mg {k : Nat} (h : k ≤ 70) : mg (wdW k) = 2 ^ (1044 + k) ∧ finK .f64 (wdW k) = true ∧ ngK .f64 (wdW k) = false ∧ mayW (wdW k) = true := by
  have := (List.all_eq_true.1 wd_mg_all) k (List.mem_range.2 (by omega))
  simp only [Bool.and_eq_true, Bool.not_eq_true', beq_iff_eq] at this
  exact ⟨this.1.1.1, this.1.1.2, this.1.2, this.2⟩
theorem rung_same {r r0 V X : Nat} (hV : 0 < V) (e : vl FloatKind.f64.format r0 * V = X)
    (a1 : r = 0 ∨ (vl FloatKind.f64.format (r - 1) + vl FloatKind.f64.format r) * V ≤ 2 * X)
    (a2 : 2 * X ≤ (vl FloatKind.f64.format r + vl FloatKind.f64.format (r + 1)) * V) : r = r0 := by
  subst e
  rcases Nat.lt_trichotomy r r0 with h | h | h
  · exfalso
    have h1 := vl_le FloatKind.f64.format (show r + 1 ≤ r0 by omega)
    have h2 := vl_lt FloatKind.f64.format (show r < r + 1 by omega)
    have h3 : vl FloatKind.f64.format r + vl FloatKind.f64.format (r + 1) < 2 * vl FloatKind.f64.format r0 := by omega
    have h4 := Nat.mul_lt_mul_of_pos_right h3 hV
    rw [Nat.mul_assoc] at h4
    exact absurd a2 (Nat.not_le.2 h4)
  · exact h
  · exfalso
    rcases a1 with a1 | a1
    · omega
    · have h1 := vl_le FloatKind.f64.format (show r0 ≤ r - 1 by omega)
      have h2 := vl_lt FloatKind.f64.format (show r - 1 < r by omega)
      have h3 : 2 * vl FloatKind.f64.format r0 < vl FloatKind.f64.format (r - 1) + vl FloatKind.f64.format r := by omega
      have h4 := Nat.mul_lt_mul_of_pos_right h3 hV
      rw [Nat.mul_assoc] at h4
      exact absurd a1 (Nat.not_le.2 h4)
theorem quo_pow {x k : Nat} (fx : finK .f64 x = true) (hk : k ≤ 70) (h : mg x = 0 ∨ 2 ^ 174 ≤ mg x) : ∃ r, floatBits .quo .f64 x (wdW k) = some (FloatKind.f64.format.word (ngK .f64 x) (min r (infK .f64))) ∧ vl FloatKind.f64.format r * 2 ^ (1044 + k) = mg x * bigU := by
  obtain ⟨hm, fw, gw, _⟩ := wd_mg hk
  have hV : 0 < 2 ^ (1044 + k) := Nat.two_pow_pos _
  obtain ⟨r, e, a1, a2, _⟩ := quo_rung fx fw (by rw [hm]; exact Nat.ne_of_gt hV)
  rw [hm] at a1 a2
  rw [gw, Bool.xor_false] at e
  have h0 : ∃ r0, vl FloatKind.f64.format r0 * 2 ^ (1044 + k) = mg x * bigU := by
    rcases h with h | h
    · exact ⟨0, by rw [h, vl_zero, Nat.zero_mul, Nat.zero_mul]⟩
    · obtain ⟨m, p, _, hv, hl⟩ := read_num64 x fx
      rw [← hv] at h ⊢
      have hp : 121 < p := by
        have h1 : m * 2 ^ p < 2 ^ 53 * 2 ^ p := Nat.mul_lt_mul_of_pos_right hl (Nat.two_pow_pos _)
        rw [← Nat.pow_add] at h1
        have h2 := Nat.lt_of_le_of_lt h h1
        have h3 := (Nat.pow_lt_pow_iff_right (by decide : 1 < 2)).1 h2
        omega
      have m0 : m ≠ 0 := by
        intro z; subst z
        rw [Nat.zero_mul] at h
        exact absurd h (by decide)
      obtain ⟨r0, hr⟩ := vl_at (E := p + 30 - k) (by omega) m0 hl
      refine ⟨r0, ?_⟩
      have hE : bigE = 1074 := rfl
      rw [hr, show bigU = 2 ^ bigE from rfl, Nat.mul_assoc, ← Nat.pow_add, Nat.mul_assoc, ← Nat.pow_add]
      congr 2
      omega
  obtain ⟨r0, h0⟩ := h0
  have := rung_same hV h0 a1 a2
  subst this
  exact ⟨r, e, h0⟩

theorem hi_next : vl FloatKind.f64.format 4845873199050653697 = 9007199254740994 * bigU := by decide +kernel
theorem hi_this : vl FloatKind.f64.format 4845873199050653696 = 9007199254740992 * bigU := by decide +kernel
theorem hi_inf : 4845873199050653697 < infK .f64 := by decide +kernel
theorem whole_rung {F : Nat} (h : F ≤ 9007199254740992) : ∃ r, r ≤ 4845873199050653696 ∧ vl FloatKind.f64.format r = F * bigU := by
  have key : ∀ r, vl FloatKind.f64.format r = F * bigU → r ≤ 4845873199050653696 := by
    intro r hr
    apply Decidable.byContradiction
    intro g
    have h1 := vl_lt FloatKind.f64.format (show 4845873199050653696 < r by omega)
    rw [hi_this, hr] at h1
    have := Nat.lt_of_mul_lt_mul_right h1
    omega
  by_cases h0 : F = 0
  · subst h0; exact ⟨0, by omega, by rw [vl_zero, Nat.zero_mul]⟩
  · by_cases h1 : F < 2 ^ 53
    · obtain ⟨r, hr⟩ := vl_whole h0 h1
      exact ⟨r, key r hr, hr⟩
    · have : F = 9007199254740992 := by
        have : (2 : Nat) ^ 53 = 9007199254740992 := by decide
        omega
      subst this
      exact ⟨_, Nat.le_refl _, hi_this⟩
theorem flM_ge (s : Bool) (g : Nat) : g / bigU ≤ flM s g := by unfold flM; omega
theorem flM_whole (s : Bool) (a : Nat) : flM s (a * bigU) = a := by
  unfold flM
  rw [Nat.mul_div_cancel _ bigU_pos, Nat.mul_mod_left]
  cases s <;> rfl
theorem rr_whole {F r : Nat} (h : vl FloatKind.f64.format r = F * bigU) : rr FloatKind.f64.format (F * bigU) 0 = r := by
  have := rr_exact FloatKind.f64.format (by decide) r 0
  rw [Nat.pow_zero, Nat.mul_one, h] at this
  exact this
theorem fl_exact {q : Nat} (fq : finK .f64 q = true) (hw : rgK .f64 (flK q) ≤ 4845873199050653696) : finK .f64 (flK q) = true ∧ ngK .f64 (flK q) = ngK .f64 q ∧ mg (flK q) = flM (ngK .f64 q) (mg q) * bigU ∧ flM (ngK .f64 q) (mg q) ≤ 9007199254740992 := by
  have e := fl_word fq
  have hin := hi_inf
  have hl : flM (ngK .f64 q) (mg q) ≤ 9007199254740992 := by
    apply Decidable.byContradiction
    intro g
    have h1 : 4845873199050653697 ≤ rgK .f64 q := by
      apply Decidable.byContradiction
      intro g1
      have h2 : mg q ≤ 9007199254740992 * bigU := by rw [← hi_this]; exact vl_le _ (by omega)
      have h3 := flM_mono (ngK .f64 q) h2
      rw [flM_whole] at h3
      exact g h3
    have h2 : 9007199254740994 * bigU ≤ mg q := by rw [← hi_next]; exact vl_le _ h1
    have h3 := flM_mono (ngK .f64 q) h2
    rw [flM_whole] at h3
    have h4 := rr_mono FloatKind.f64.format (by decide) 0 (Nat.mul_le_mul_right bigU h3)
    rw [rr_whole hi_next] at h4
    rw [e, rgK_word _ _ _ (Nat.min_le_right _ _)] at hw
    generalize rr FloatKind.f64.format (flM (ngK .f64 q) (mg q) * bigU) 0 = R at *
    generalize infK .f64 = I at *
    omega
  obtain ⟨r, hr, hv⟩ := whole_rung hl
  rw [rr_whole hv] at e
  have hi : r < infK .f64 := by omega
  rw [Nat.min_eq_left (Nat.le_of_lt hi)] at e
  rw [e]
  have hle := Nat.le_of_lt hi
  refine ⟨?_, ngK_word _ _ _ hle, ?_, hl⟩
  · unfold finK; rw [rgK_word _ _ _ hle]; exact decide_eq_true hi
  · unfold mg; rw [rgK_word _ _ _ hle]; exact hv
end Go.Proofs.Ytekhnolpgoejdab
namespace Go.Proofs.Ytekhnolpgoejdab
open Ieee Go.RowKit
set_option linter.unusedSimpArgs false
set_option linter.unusedVariables false

theorem down_mul {a g U V X : Nat} (hU : 0 < U) (e : g * V = X * U) (h : a * U ≤ g) : a * V ≤ X := by
  have h1 := Nat.mul_le_mul_right V h
  rw [e] at h1
  refine Nat.le_of_mul_le_mul_right (c := U) ?_ hU
  rw [Nat.mul_right_comm]; exact h1
theorem up_mul {a g U V X : Nat} (hU : 0 < U) (hV : 0 < V) (e : g * V = X * U) (h : g < a * U + U) : X < a * V + V := by
  have h1 := Nat.mul_lt_mul_of_pos_right h hV
  rw [e, Nat.add_mul] at h1
  refine Nat.lt_of_mul_lt_mul_right (a := U) ?_
  rw [Nat.add_mul, Nat.mul_right_comm a V U, Nat.mul_comm V U]; exact h1
theorem up_mul2 {a g U V X : Nat} (hU : 0 < U) (e : g * V = X * U) (h : g ≤ a * U) : X ≤ a * V := by
  have h1 := Nat.mul_le_mul_right V h
  rw [e] at h1
  refine Nat.le_of_mul_le_mul_right (c := U) ?_ hU
  rw [Nat.mul_right_comm a V U]; exact h1
theorem down_mul2 {a g U V X : Nat} (hU : 0 < U) (hV : 0 < V) (e : g * V = X * U) (h : a * U < g + U) : a * V < X + V := by
  have h1 := Nat.mul_lt_mul_of_pos_right h hV
  rw [Nat.add_mul, e] at h1
  refine Nat.lt_of_mul_lt_mul_right (a := U) ?_
  rw [Nat.add_mul, Nat.mul_right_comm a V U, Nat.mul_comm V U]; exact h1
theorem flM_false (g : Nat) : flM false g * bigU ≤ g ∧ g < flM false g * bigU + bigU := by
  unfold flM
  have a := Nat.div_add_mod g bigU
  have b := Nat.mod_lt g bigU_pos
  rw [Nat.mul_comm] at a
  simp only [Bool.false_and, Bool.toNat_false, Nat.add_zero]
  generalize g / bigU * bigU = t at *
  generalize g % bigU = u at *
  generalize bigU = U at *
  omega
theorem flM_true (g : Nat) : g ≤ flM true g * bigU ∧ flM true g * bigU < g + bigU := by
  unfold flM
  have a := Nat.div_add_mod g bigU
  have b := Nat.mod_lt g bigU_pos
  have c := bigU_pos
  rw [Nat.mul_comm] at a
  by_cases z : g % bigU = 0
  · rw [z] at a ⊢
    simp only [bne_self_eq_false, Bool.and_false, Bool.toNat_false, Nat.add_zero] at a ⊢
    generalize g / bigU * bigU = t at *
    generalize bigU = U at *
    omega
  · rw [show (g % bigU != 0) = true by simp [z]]
    simp only [Bool.and_true, Bool.toNat_true, Nat.add_mul, Nat.one_mul]
    generalize g / bigU * bigU = t at *
    generalize g % bigU = u at *
    generalize bigU = U at *
    omega
/-- a place lies in its column -/
theorem co_lies {x k : Nat} (fx : finK .f64 x = true) (hk : k ≤ 70) (h : mg x = 0 ∨ 2 ^ 174 ≤ mg x) (hw : withinK .f64 (flK (Dv .quo x (wdW k))) 4845873199050653696 = true) :
    (coK x (wdW k)).natAbs ≤ 9007199254740992 ∧ coK x (wdW k) * ((2 ^ (1044 + k) : Nat) : Int) ≤ svK .f64 x ∧ svK .f64 x < (coK x (wdW k) + 1) * ((2 ^ (1044 + k) : Nat) : Int) := by
  have nx := fin_num fx
  obtain ⟨_, fw, gw, mw⟩ := wd_mg hk
  have hV : 0 < 2 ^ (1044 + k) := Nat.two_pow_pos _
  obtain ⟨r, e, hv⟩ := quo_pow fx hk h
  obtain ⟨_, nq, nf, _⟩ := co_all nx mw
  have hc := co_in nx mw hw
  rw [within53 nf] at hw
  have hw := of_decide_eq_true hw
  have hb := in_bounds hw.2 hw.1
  have hrg : rgK .f64 (flK (Dv .quo x (wdW k))) ≤ 4845873199050653696 := by
    have h1 := hw.1
    have h2 := hw.2
    rw [woK_eq] at h1 h2
    split at h1 <;> rename_i g <;> simp [g] at h2 <;> omega
  have fq : finK .f64 (Dv .quo x (wdW k)) = true := by
    cases hq : finK .f64 (Dv .quo x (wdW k))
    · exfalso
      rw [fl_inf hq nq, rgK_word _ _ _ (Nat.le_refl _)] at hrg
      have := hi_inf
      omega
    · rfl
  rw [(toI_fin hb.1).1, Option.some_inj] at hc
  obtain ⟨_, g2, g3, g4⟩ := fl_exact fq hrg
  have ht := (toI_fin hb.1).2
  rw [hc, g2, g3, Nat.mul_div_cancel _ bigU_pos] at ht
  have eq := dv_some e
  have hi : min r (infK .f64) < infK .f64 := by
    have := is_fin fq
    rwa [eq, rgK_word _ _ _ (Nat.min_le_right _ _)] at this
  have hr : min r (infK .f64) = r := by omega
  have gq : ngK .f64 (Dv .quo x (wdW k)) = ngK .f64 x := by rw [eq, ngK_word _ _ _ (Nat.min_le_right _ _)]
  have mq : mg (Dv .quo x (wdW k)) = vl FloatKind.f64.format r := by unfold mg; rw [eq, rgK_word _ _ _ (Nat.min_le_right _ _), hr]
  rw [gq, mq] at ht g4
  generalize vl FloatKind.f64.format r = g at *
  have hs : svK .f64 x = if ngK .f64 x then -(mg x : Int) else (mg x : Int) := rfl
  generalize coK x (wdW k) = c at *
  generalize mg x = X at *
  rw [hs]
  generalize 2 ^ (1044 + k) = V at *
  cases hg : ngK .f64 x <;> rw [hg] at ht g4
  · simp only [Bool.false_eq_true, if_false] at ht ⊢
    obtain ⟨p, q⟩ := flM_false g
    have p := down_mul bigU_pos hv p
    have q := up_mul bigU_pos hV hv q
    generalize flM false g = F at *
    subst ht
    refine ⟨by omega, by exact_mod_cast p, ?_⟩
    rw [Int.add_mul, Int.one_mul]; exact_mod_cast q
  · simp only [if_true] at ht ⊢
    obtain ⟨p, q⟩ := flM_true g
    have p := up_mul2 bigU_pos hv p
    have q := down_mul2 bigU_pos hV hv q
    generalize flM true g = F at *
    subst ht
    have p' : (X : Int) ≤ (F : Int) * (V : Int) := by exact_mod_cast p
    have q' : (F : Int) * (V : Int) < (X : Int) + (V : Int) := by exact_mod_cast q
    refine ⟨by omega, ?_, ?_⟩
    · rw [Int.neg_mul]; omega
    · rw [Int.add_mul, Int.one_mul, Int.neg_mul]; omega

/-- the float of an int -/
def fZ (c : Int) : Nat := FloatKind.f64.nearest c
theorem fZ_word (c : Int) : fZ c = FloatKind.f64.format.word (decide (c < 0)) (min (rr FloatKind.f64.format (c.natAbs * bigU) 0) (infK .f64)) := by
  obtain ⟨E, hE, hbU⟩ := bigU_pow
  have h0 : fZ c = FloatKind.f64.format.nearest (decide (c < 0)) c.natAbs 0 := rfl
  have h1 : (0 : Int) = (FloatKind.f64.format.leastPlace - ((0 : Nat) : Int)) + ((E : Nat) : Int) := by rw [hE]; omega
  rw [h0, h1, nearest_shift, nearest_rr, hbU]
  rfl
theorem fZ_num {c : Int} (h : c.natAbs ≤ 9007199254740992) : finK .f64 (fZ c) = true ∧ okK .f64 (fZ c) ∧ ngK .f64 (fZ c) = decide (c < 0) ∧ mg (fZ c) = c.natAbs * bigU := by
  obtain ⟨r, hr, hv⟩ := whole_rung h
  have hin := hi_inf
  have hi : r < infK .f64 := by omega
  have hle := Nat.le_of_lt hi
  have e := fZ_word c
  rw [rr_whole hv, Nat.min_eq_left hle] at e
  rw [e]
  refine ⟨?_, word_okK _ _ _ hle, ngK_word _ _ _ hle, ?_⟩
  · unfold finK; rw [rgK_word _ _ _ hle]; exact decide_eq_true hi
  · unfold mg; rw [rgK_word _ _ _ hle]; exact hv
theorem inf_vl : vl FloatKind.f64.format (infK .f64) = 2 ^ (bigE + 1024) := by decide +kernel
theorem pow_rung {a k : Nat} (h : a ≤ 9007199254740992) (hk : k ≤ 70) : ∃ r, r < infK .f64 ∧ vl FloatKind.f64.format r = a * 2 ^ (1044 + k) := by
  have hE : bigE = 1074 := rfl
  have h53 : a ≤ 2 ^ 53 := by
    have : (2 : Nat) ^ 53 = 9007199254740992 := by decide
    omega
  have key : ∀ r, vl FloatKind.f64.format r = a * 2 ^ (1044 + k) → r < infK .f64 := by
    intro r hr
    rw [← vl_lt_iff FloatKind.f64.format, inf_vl, hr]
    have h1 : a * 2 ^ (1044 + k) ≤ 2 ^ 53 * 2 ^ (1044 + k) := Nat.mul_le_mul_right _ h53
    rw [← Nat.pow_add] at h1
    exact Nat.lt_of_le_of_lt h1 (Nat.pow_lt_pow_right (by decide) (by omega))
  by_cases h0 : a = 0
  · exact ⟨0, inf_pos, by rw [h0, vl_zero, Nat.zero_mul]⟩
  · by_cases h1 : a < 2 ^ 53
    · obtain ⟨r, hr⟩ := vl_at (E := 1044 + k) (by omega) h0 h1
      exact ⟨r, key r hr, hr⟩
    · have h2 : a = 2 ^ 53 := by
        have : (2 : Nat) ^ 53 = 9007199254740992 := by decide
        omega
      obtain ⟨r, hr⟩ := vl_at (E := 53 + (1044 + k)) (k := 1) (by omega) (by decide) (by decide)
      rw [Nat.one_mul, Nat.pow_add, ← h2] at hr
      exact ⟨r, key r hr, hr⟩
theorem mul_wd {c : Int} {k : Nat} (h : c.natAbs ≤ 9007199254740992) (hk : k ≤ 70) : ∃ r, floatBits .mul .f64 (fZ c) (wdW k) = some r ∧ finK .f64 r = true ∧ okK .f64 r ∧ svK .f64 r = c * ((2 ^ (1044 + k) : Nat) : Int) := by
  obtain ⟨f1, o1, g1, m1⟩ := fZ_num h
  obtain ⟨m2, f2, g2, _⟩ := wd_mg hk
  obtain ⟨r, hi, hv⟩ := pow_rung h hk
  have hle := Nat.le_of_lt hi
  have e := mul_spec (fZ c) (wdW k) f1 f2
  have hm : vl FloatKind.f64.format (rgK .f64 (fZ c)) * vl FloatKind.f64.format (rgK .f64 (wdW k)) = vl FloatKind.f64.format r * 2 ^ bigE := by
    have m1 : vl FloatKind.f64.format (rgK .f64 (fZ c)) = _ := m1
    have m2 : vl FloatKind.f64.format (rgK .f64 (wdW k)) = _ := m2
    rw [m1, m2, hv, show bigU = 2 ^ bigE from rfl, Nat.mul_right_comm]
  rw [hm] at e
  obtain ⟨t, ht⟩ : ∃ t : Nat, t = 1074 := ⟨_, rfl⟩
  have hE : bigE = t := by rw [ht]; rfl
  rw [← ht, hE, rr_exact _ fb1, Nat.min_eq_left hle, g1, g2, Bool.xor_false] at e
  refine ⟨_, e, ?_, word_okK _ _ _ hle, ?_⟩
  · unfold finK; rw [rgK_word _ _ _ hle]; exact decide_eq_true hi
  · unfold svK
    rw [ngK_word _ _ _ hle, rgK_word _ _ _ hle, hv]
    generalize 2 ^ (1044 + k) = V
    by_cases l : c < 0
    · rw [if_pos (decide_eq_true l), Int.natCast_mul, ← Int.neg_mul, show -(c.natAbs : Int) = c by omega]
    · rw [if_neg (by simpa using l), Int.natCast_mul, show (c.natAbs : Int) = c by omega]
theorem wo_svG (x y : Nat) : woK .f64 x ≤ woK .f64 y ↔ svK .f64 x ≤ svK .f64 y := by
  have hx := woK_eq .f64 x
  have hy := woK_eq .f64 y
  have vz : vl FloatKind.f64.format 0 = 0 := vl_zero _
  have le : ∀ {r s : Nat}, vl FloatKind.f64.format r ≤ vl FloatKind.f64.format s ↔ r ≤ s := fun {r s} => by
    rw [← Nat.not_lt, ← Nat.not_lt, vl_lt_iff]
  have pos : ∀ r, vl FloatKind.f64.format r = 0 ↔ r = 0 := fun r => ⟨fun h => vl_inj _ (h.trans vz.symm), fun h => by rw [h]; exact vz⟩
  rw [hx, hy]
  show (if ngK .f64 x then -(rgK .f64 x : Int) else (rgK .f64 x : Int)) ≤ (if ngK .f64 y then -(rgK .f64 y : Int) else (rgK .f64 y : Int)) ↔ (if ngK .f64 x then -(vl FloatKind.f64.format (rgK .f64 x) : Int) else (vl FloatKind.f64.format (rgK .f64 x) : Int)) ≤ (if ngK .f64 y then -(vl FloatKind.f64.format (rgK .f64 y) : Int) else (vl FloatKind.f64.format (rgK .f64 y) : Int))
  generalize rgK .f64 x = a
  generalize rgK .f64 y = b
  have l1 := @le a b
  have l2 := @le b a
  have p1 := pos a
  have p2 := pos b
  generalize vl FloatKind.f64.format a = u at *
  generalize vl FloatKind.f64.format b = v at *
  cases ngK .f64 x <;> cases ngK .f64 y <;> simp <;> omega
theorem lt_svG {a b : Nat} (fa : finK .f64 a = true) (fb : finK .f64 b = true) : ltK .f64 a b = decide (svK .f64 a < svK .f64 b) := by
  have h2 := wo_svG b a
  unfold ltK
  rw [fin_num fa, fin_num fb]
  simp only [Bool.not_false, Bool.true_and]
  rw [decide_eq_decide]
  omega
/-- two places nearer than the width: so is the difference as it is reckoned -/
theorem sub_wd {x y k : Nat} (fx : finK .f64 x = true) (fy : finK .f64 y = true) (oy : okK .f64 y) (hk : k ≤ 70) (h : (svK .f64 x - svK .f64 y).natAbs ≤ 2 ^ (1044 + k)) : ∃ r, floatBits .sub .f64 x y = some r ∧ okK .f64 r ∧ finK .f64 r = true ∧ leK .f64 (rgK .f64 r) (wdW k) = true := by
  have e := add_spec .f64 x (Op.negFloat .f64 y) fx (by rw [fin_neg _ oy]; exact fy)
  rw [← sub_is_add _ _ _ oy, sv_neg _ oy, show svK .f64 x + -svK .f64 y = svK .f64 x - svK .f64 y by omega] at e
  obtain ⟨m2, f2, g2, _⟩ := wd_mg hk
  have hi : rgK .f64 (wdW k) < infK .f64 := is_fin f2
  have hr : rr FloatKind.f64.format (svK .f64 x - svK .f64 y).natAbs 0 ≤ rgK .f64 (wdW k) := by
    have h1 := rr_mono FloatKind.f64.format fb1 0 h
    have h2 := rr_exact FloatKind.f64.format fb1 (rgK .f64 (wdW k)) 0
    have m2 : vl FloatKind.f64.format (rgK .f64 (wdW k)) = _ := m2
    rw [Nat.pow_zero, Nat.mul_one, m2] at h2
    rw [h2] at h1; exact h1
  generalize (if svK .f64 x - svK .f64 y = 0 then ngK .f64 x && ngK .f64 (Op.negFloat .f64 y) else decide (svK .f64 x - svK .f64 y < 0)) = s at e
  have e : floatBits .sub .f64 x y = some (FloatKind.f64.format.word s (min (rr FloatKind.f64.format (svK .f64 x - svK .f64 y).natAbs 0) (infK .f64))) := e
  generalize rr FloatKind.f64.format (svK .f64 x - svK .f64 y).natAbs 0 = R at e hr
  rw [Nat.min_eq_left (by omega)] at e
  have hle : R ≤ infK .f64 := by omega
  have r0 : rgK .f64 (FloatKind.f64.format.word s R) = R := rgK_word _ _ _ hle
  refine ⟨_, e, word_okK _ _ _ hle, ?_, ?_⟩
  · unfold finK; rw [r0]; exact decide_eq_true (by omega)
  · rw [r0]
    have nw := fin_num f2
    have hi' := inf64
    have r1 : rgK .f64 R = R := by rw [rg64]; omega
    have r2 : ngK .f64 R = false := by rw [ng64, beq_eq_false_iff_ne]; omega
    have r3 : nanK .f64 R = false := by rw [nanK_eq, r1]; simp; omega
    unfold leK
    rw [r3, nw, woK_eq, woK_eq, r1, r2, g2]
    simp only [Bool.not_false, Bool.true_and, Bool.false_eq_true, if_false]
    exact decide_eq_true (by omega)
/-- two places in one column -/
theorem same_col {a b c V : Int} (h1 : c * V ≤ a) (h2 : a < (c + 1) * V) (h3 : c * V ≤ b) (h4 : b < (c + 1) * V) : -V ≤ a - b ∧ a - b ≤ V := by
  rw [Int.add_mul, Int.one_mul] at h2 h4
  omega
end Go.Proofs.Ytekhnolpgoejdab
namespace Go.Proofs.Ytekhnolpgoejdab
open Ieee Go.RowKit
set_option linter.unusedSimpArgs false
set_option linter.unusedVariables false

theorem le_svG {a b : Nat} (fa : finK .f64 a = true) (fb : finK .f64 b = true) : leK .f64 a b = decide (svK .f64 a ≤ svK .f64 b) := by
  have h2 := wo_svG a b
  unfold leK
  rw [fin_num fa, fin_num fb]
  simp only [Bool.not_false, Bool.true_and]
  rw [decide_eq_decide]
  exact h2
theorem within_fin {x : Nat} (h : withinK .f64 x 4787326403894837248 = true) : finK .f64 x = true := by
  unfold withinK leK at h
  simp only [Bool.and_eq_true, decide_eq_true_eq, Bool.not_eq_true'] at h
  have k1 : woK .f64 (Op.negFloat .f64 4787326403894837248) = -4787326403894837248 := by decide +kernel
  have k2 : woK .f64 4787326403894837248 = 4787326403894837248 := by decide +kernel
  rw [k1, k2] at h
  exact (in_bounds (by omega) (by omega)).1
def Fine (v : Nat) : Prop := eqK .f64 v 0 = true ∨ ltK .f64 (rgK .f64 v) 553942754166571008 = false
theorem fine_mg {v : Nat} (f : finK .f64 v = true) (h : Fine v) : mg v = 0 ∨ 2 ^ 174 ≤ mg v := by
  rcases h with h | h
  · left
    rw [eqK_nought] at h
    exact mg_zero.2 (of_decide_eq_true h)
  · right
    have hi := is_fin f
    have hi' := inf64
    have r1 : rgK .f64 (rgK .f64 v) = rgK .f64 v := by rw [rg64, rg64]; omega
    have r2 : ngK .f64 (rgK .f64 v) = false := by rw [ng64, rg64, beq_eq_false_iff_ne]; omega
    have r3 : nanK .f64 (rgK .f64 v) = false := by rw [nanK_eq, r1, ← nanK_eq]; exact fin_num f
    have w1 : woK .f64 (rgK .f64 v) = (rgK .f64 v : Int) := by rw [woK_eq, r1, r2]; rfl
    have k2 : woK .f64 553942754166571008 = 553942754166571008 := by decide +kernel
    have k3 : nanK .f64 553942754166571008 = false := by decide +kernel
    unfold ltK at h
    rw [r3, k3, w1, k2] at h
    simp only [Bool.not_false, Bool.true_and, decide_eq_false_iff_not] at h
    have k4 : vl FloatKind.f64.format 553942754166571008 = 2 ^ 174 := by decide +kernel
    rw [← k4]
    exact vl_le _ (by omega)
theorem lies_one {x k : Nat} (fx : finK .f64 x = true) (hk : k ≤ 70) (hf : Fine x) (hw : withinK .f64 (flK (Dv .quo x (wdW k))) 4845873199050653696 = true) :
    ∃ r1 r2, floatBits .mul .f64 (fZ (coK x (wdW k))) (wdW k) = some r1 ∧ ltK .f64 x r1 = false ∧ floatBits .mul .f64 (fZ (coK x (wdW k) + 1)) (wdW k) = some r2 ∧
      ((coK x (wdW k) < 9007199254740992 ∧ leK .f64 r2 x = false) ∨ (coK x (wdW k) = 9007199254740992 ∧ leK .f64 r2 x = true)) ∧ (coK x (wdW k)).natAbs ≤ 9007199254740992 := by
  obtain ⟨h1, h2, h3⟩ := co_lies fx hk (fine_mg fx hf) hw
  obtain ⟨r1, e1, f1, _, s1⟩ := mul_wd h1 hk
  have t1 : ltK .f64 x r1 = false := by
    rw [lt_svG fx f1, s1]; exact decide_eq_false (by omega)
  by_cases hc : coK x (wdW k) = 9007199254740992
  · refine ⟨r1, r1, e1, t1, ?_, .inr ⟨hc, ?_⟩, h1⟩
    · rw [hc] at e1 ⊢
      rw [show fZ (9007199254740992 + 1) = fZ 9007199254740992 by decide +kernel]; exact e1
    · rw [le_svG f1 fx, s1]; exact decide_eq_true h2
  · obtain ⟨r2, e2, f2, _, s2⟩ := mul_wd (c := coK x (wdW k) + 1) (by omega) hk
    refine ⟨r1, r2, e1, t1, e2, .inl ⟨by omega, ?_⟩, h1⟩
    rw [le_svG f2 fx, s2]; exact decide_eq_false (by omega)
theorem near_one {x y k : Nat} (fx : finK .f64 x = true) (fy : finK .f64 y = true) (oy : okK .f64 y) (hk : k ≤ 70) (hx : Fine x) (hy : Fine y) (hw : withinK .f64 (flK (Dv .quo x (wdW k))) 4845873199050653696 = true) (hv : withinK .f64 (flK (Dv .quo y (wdW k))) 4845873199050653696 = true) (e : coK x (wdW k) = coK y (wdW k)) :
    ∃ r, floatBits .sub .f64 x y = some r ∧ okK .f64 r ∧ leK .f64 (rgK .f64 r) (wdW k) = true := by
  obtain ⟨h1, h2, h3⟩ := co_lies fx hk (fine_mg fx hx) hw
  obtain ⟨_, h4, h5⟩ := co_lies fy hk (fine_mg fy hy) hv
  rw [← e] at h4 h5
  have := same_col h2 h3 h4 h5
  obtain ⟨r, a, b, _, c⟩ := sub_wd fx fy oy hk (by omega)
  exact ⟨r, a, b, c⟩
theorem wd_pw (k : Nat) : pw ((k : Int) - 30) = wdW k := by unfold pw wdW; omega
theorem wd_ok {k : Nat} (h : k ≤ 70) : okK .f64 (wdW k) := by rw [okK64]; unfold wdW; omega
end Go.Proofs.Ytekhnolpgoejdab
