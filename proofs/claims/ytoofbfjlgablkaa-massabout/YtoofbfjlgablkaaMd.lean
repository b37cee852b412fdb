/-
  What each function of package poly answers, and what the reference of its chapter answers: one contract a function, for every float: the answer stands in the relation of its formula to what was given; of the memory that was there nothing has turned.
-/
import Derived.Test.YtoofbfjlgablkaaVec
import Derived.Test.YtoofbfjlgablkaaMc
import Derived.Below
import Derived.WalkKit
import Derived.WalkLawsBesides
import Derived.WalkSpells
import Derived.ProofKit
import Derived.OpenShut
import Derived.Deep.RegionHeld3
namespace Go.Proofs.Ytoofbfjlgablkaa
open Go.ChangeShapes Go.WideShapes Go.ChangeAt Go.RowKit
set_option linter.unusedVariables false
set_option linter.unusedSimpArgs false


def CircA (r d px py m j x y : Nat) (e : Int) : Prop := ∃ m' j', CircR r d m' j' ∧ Told m' j' px py m j x y e
def CapA (fx fy tx ty r d m j x y : Nat) (e : Int) : Prop := ∃ m' j' x' y', CapsR fx fy tx ty r d m' j' x' y' ∧ Told m' j' x' y' m j x y e
def PolyA (xs ys : Nat → Nat) (n d m j x y : Nat) (e : Int) : Prop := (¬ fanE xs ys n = 0 ∧ m = 0 ∧ j = 0 ∧ x = 0 ∧ y = 0 ∧ e = fanE xs ys n) ∨ (fanE xs ys n = 0 ∧ 0 < n ∧ ∃ m' j', resK .mul .f64 d (areaE xs ys n) m' ∧ TurnR xs ys n (cenX xs ys n) (cenY xs ys n) d j' ∧ Told m' j' (cenX xs ys n) (cenY xs ys n) m j x y e)
def densB (d : Nat) : Bool := leK .f64 0 d && leK .f64 d 4787326403894837248
def OfA (k : Int) (r : Nat) (xs ys : Nat → Nat) (n d m j x y : Nat) (e : Int) : Prop :=
  if shE k r xs ys n = 0 then (if densB d = true then (if k = 1 then CircA r d (xs 0) (ys 0) m j x y e else if k = 2 then CapA (xs 0) (ys 0) (xs 1) (ys 1) r d m j x y e else PolyA xs ys n d m j x y e) else ((m = 0 ∧ j = 0 ∧ x = 0 ∧ y = 0) ∧ e = 5)) else ((m = 0 ∧ j = 0 ∧ x = 0 ∧ y = 0) ∧ e = shE k r xs ys n)
def Sm5 (m j x y m' j' x' y' : Nat) (e e' : Int) : Prop := smK .f64 m m' = true ∧ smK .f64 j j' = true ∧ smK .f64 x x' = true ∧ smK .f64 y y' = true ∧ e = e'
theorem sm5_zero {m j x y m' j' x' y' : Nat} {e e' : Int} (h : m = 0 ∧ j = 0 ∧ x = 0 ∧ y = 0) (g : m' = 0 ∧ j' = 0 ∧ x' = 0 ∧ y' = 0) (he : e = e') : Sm5 m j x y m' j' x' y' e e' := by
  obtain ⟨rfl, rfl, rfl, rfl⟩ := h
  obtain ⟨rfl, rfl, rfl, rfl⟩ := g
  exact ⟨smK_self _ _, smK_self _ _, smK_self _ _, smK_self _ _, he⟩
theorem CircA.sm {r d px py m j x y m' j' x' y' : Nat} {e e' : Int} (h : CircA r d px py m j x y e) (g : CircA r d px py m' j' x' y' e') : Sm5 m j x y m' j' x' y' e e' := by
  obtain ⟨a, b, h1, h2⟩ := h
  obtain ⟨a', b', g1, g2⟩ := g
  have q := h1.sm g1
  exact h2.sm q.1 q.2 (smK_self _ _) (smK_self _ _) g2
theorem CapA.sm {fx fy tx ty r d m j x y m' j' x' y' : Nat} {e e' : Int} (h : CapA fx fy tx ty r d m j x y e) (g : CapA fx fy tx ty r d m' j' x' y' e') : Sm5 m j x y m' j' x' y' e e' := by
  obtain ⟨a, b, c, f, h1, h2⟩ := h
  obtain ⟨a', b', c', f', g1, g2⟩ := g
  have q := h1.sm g1
  exact h2.sm q.1 q.2.1 q.2.2.1 q.2.2.2 g2
theorem PolyA.sm {xs ys : Nat → Nat} {n d m j x y m' j' x' y' : Nat} {e e' : Int} (h : PolyA xs ys n d m j x y e) (g : PolyA xs ys n d m' j' x' y' e') : Sm5 m j x y m' j' x' y' e e' := by
  rcases h with ⟨h0, h1, h2, h3, h4, h5⟩ | ⟨h0, hn, a, b, h1, h2, h3⟩ <;> rcases g with ⟨g0, g1, g2, g3, g4, g5⟩ | ⟨g0, _, a', b', g1, g2, g3⟩
  · exact sm5_zero ⟨h1, h2, h3, h4⟩ ⟨g1, g2, g3, g4⟩ (h5.trans g5.symm)
  · exact absurd g0 h0
  · exact absurd h0 g0
  · exact h3.sm (res_congr (smK_self _ _) (smK_self _ _) h1 g1) (h2.sm hn g2) (smK_self _ _) (smK_self _ _) g3
theorem OfA.sm {k : Int} {r n d m j x y m' j' x' y' : Nat} {xs ys : Nat → Nat} {e e' : Int} (h : OfA k r xs ys n d m j x y e) (g : OfA k r xs ys n d m' j' x' y' e') : Sm5 m j x y m' j' x' y' e e' := by
  unfold OfA at h g
  by_cases h1 : shE k r xs ys n = 0
  · rw [if_pos h1] at h g
    by_cases h2 : densB d = true
    · rw [if_pos h2] at h g
      by_cases h3 : k = 1
      · rw [if_pos h3] at h g; exact h.sm g
      · rw [if_neg h3] at h g
        by_cases h4 : k = 2
        · rw [if_pos h4] at h g; exact h.sm g
        · rw [if_neg h4] at h g; exact h.sm g
    · rw [if_neg h2] at h g; exact sm5_zero h.1 g.1 (h.2.trans g.2.symm)
  · rw [if_neg h1] at h g; exact sm5_zero h.1 g.1 (h.2.trans g.2.symm)

set_option maxRecDepth 100000 in
set_option maxHeartbeats 2000000 in
theorem polygon_any (V : Value) (n : Nat) (xs ys : Nat → Nat) (d : Nat) (w : World) (h : AnyS w V n xs ys) : Calls Try.prog 40 #[V, .float .f64 d] w fun e w' => ∃ m j x y f, PolyA xs ys n d m j x y f ∧ e = .returned (.tuple #[.agg #[.float .f64 m, .float .f64 j, .float .f64 x, .float .f64 y], .int .i64 f]) ∧ Bel w w' := by
  obtain ⟨v, hv⟩ : ∃ v, fanE xs ys n = v := ⟨_, rfl⟩
  obtain ⟨a, cap, rfl, _⟩ := id h
  by_cases h0 : v = 0
  · subst h0
    obtain ⟨a', cap', e1, a2, a3, a4, a5, a6⟩ := id h
    cases e1
    have hc0 : chkE xs ys n = 0 := by
      unfold fanE at hv
      by_cases hx : chkE xs ys n = 0
      · exact hx
      · rw [if_neg hx] at hv; exact absurd hv hx
    obtain ⟨g, h3, h64, _⟩ := chk_ok a5 hc0
    rcases a6 with h0 | ⟨hp, b, off, rfl, sl⟩
    · omega
    have q1 := run_mul Try.prog
    have q2 := run_quo Try.prog
    have B0 := bl_alloc (bl_refl w) #[.float .f64 0, .float .f64 0, .float .f64 0, .float .f64 0] 28
    have hx := h.bel B0
    go_enter Try.func40, Try.ntmps40
    go_wp2_with (first | (go_at_call 53; refine (area_all _ n xs ys _ hx).mono ?_; rintro e w' ⟨rfl, hb⟩; rw [hv]; have hx2 := hx.bel hb; have sl2 := sl.bel (bl_trans B0 hb); (first | have B := bl_trans B hb | have B := bl_trans (by repeat (first | exact B | apply bl_drewN)) hb | have B := bl_trans (by repeat (first | exact B | apply bl_drewN | apply bl_drew | apply bl_alloc | refine bl_set ?_ (by simp <;> omega))) hb | have B := hb); (try clear hc hf hz); obtain ⟨hc, hf⟩ := bcell B; have hz := B.size; (try simp at hz)) | (go_at_call 54; refine (centre_all _ n xs ys _ hx2).mono ?_; rintro e w_2 ⟨rfl, hb⟩; rw [hv]; have sl3 := sl2.bel hb; have hzz := hb.size; (first | have B := bl_trans B hb | have B := bl_trans (by repeat (first | exact B | apply bl_drewN)) hb | have B := bl_trans (by repeat (first | exact B | apply bl_drewN | apply bl_drew | apply bl_alloc | refine bl_set ?_ (by simp <;> omega))) hb | have B := hb); (try clear hc hf hz); obtain ⟨hc, hf⟩ := bcell B; have hz := B.size; (try simp at hz)) | (go_at_call 55; refine (spread_any _ _ _ _ xs ys _ _ _ (Sl.bel sl3 (by repeat (first | exact bl_refl _ | apply bl_alloc | refine bl_set ?_ (by simp)))) hp (by omega) a2).mono ?_; rintro e w' ⟨sp, hSp, rfl, hb⟩; have kc0 := keep hb (a := ⟨w_2.heap.size, 0, none⟩) (by rw [World.cell?_alloc_new]; rfl); have kc1 := keep hb (a := ⟨w_2.heap.size, 1, none⟩) (by rw [World.cell?_alloc_new]; rfl); (first | have B := bl_trans B hb | have B := bl_trans (by repeat (first | exact B | apply bl_drewN)) hb | have B := bl_trans (by repeat (first | exact B | apply bl_drewN | apply bl_drew | apply bl_alloc | refine bl_set ?_ (by simp <;> omega))) hb | have B := hb); (try clear hc hf hz); obtain ⟨hc, hf⟩ := bcell B; have hz := B.size; (try simp at hz)) | (go_at_call 25; refine (told_any _ _ _ _ _).mono ?_; rintro e w' ⟨m1, j1, x1, y1, e1, hTo, rfl, hb⟩; (first | have B := bl_trans B hb | have B := bl_trans (by repeat (first | exact B | apply bl_drewN)) hb | have B := bl_trans (by repeat (first | exact B | apply bl_drewN | apply bl_drew | apply bl_alloc | refine bl_set ?_ (by simp <;> omega))) hb | have B := hb); (try clear hc hf hz); obtain ⟨hc, hf⟩ := bcell B; have hz := B.size; (try simp at hz)))
    refine bodyPost_ret (v := .tuple #[.agg #[.float .f64 m1, .float .f64 j1, .float .f64 x1, .float .f64 y1], .int .i64 e1]) (by simp [hc, results, Try.results40, go_sem] <;> (first | exact ⟨⟨rfl, rfl, rfl, rfl⟩, rfl⟩ | exact ⟨rfl, rfl, rfl, rfl, rfl⟩ | exact ⟨rfl, rfl⟩ | rfl)) rfl ⟨_, _, _, _, _, .inr ⟨hv, hp, _, _, fv_res .mul .f64 _ _ _, ⟨_, _, hSp, fv_res .quo .f64 _ _ _, fv_res .mul .f64 _ _ _⟩, hTo⟩, rfl, ?_⟩
    repeat (first | exact bl_refl _ | assumption | apply bl_drewN | apply bl_drew | apply bl_alloc | refine bl_set ?_ (by simp <;> omega) | refine bl_trans ?_ (by assumption))
  · have B0 := bl_alloc (bl_refl w) #[.float .f64 0, .float .f64 0, .float .f64 0, .float .f64 0] 28
    have hx := h.bel B0
    go_enter Try.func40, Try.ntmps40
    go_wp2_with (first | (go_at_call 53; refine (area_all _ n xs ys _ hx).mono ?_; rintro e w' ⟨rfl, hb⟩; rw [hv]; (first | have B := bl_trans B hb | have B := bl_trans (by repeat (first | exact B | apply bl_drewN)) hb | have B := bl_trans (by repeat (first | exact B | apply bl_drewN | apply bl_drew | apply bl_alloc | refine bl_set ?_ (by simp <;> omega))) hb | have B := hb); (try clear hc hf hz); obtain ⟨hc, hf⟩ := bcell B; have hz := B.size; (try simp at hz)))
    all_goals
      refine bodyPost_ret (v := .tuple #[.agg #[.float .f64 0, .float .f64 0, .float .f64 0, .float .f64 0], .int .i64 v]) (by simp [hc, results, Try.results40, go_sem] <;> (first | exact ⟨⟨rfl, rfl, rfl, rfl⟩, rfl⟩ | exact ⟨rfl, rfl, rfl, rfl, rfl⟩ | exact ⟨rfl, rfl⟩ | rfl)) rfl ⟨_, _, _, _, _, .inl ⟨by rw [hv]; exact h0, rfl, rfl, rfl, rfl, hv.symm⟩, rfl, ?_⟩
      repeat (first | exact bl_refl _ | assumption | apply bl_drewN | apply bl_drew | apply bl_alloc | refine bl_set ?_ (by simp <;> omega) | refine bl_trans ?_ (by assumption))

end Go.Proofs.Ytoofbfjlgablkaa
