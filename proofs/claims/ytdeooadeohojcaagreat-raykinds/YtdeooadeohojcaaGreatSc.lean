/-
  What each function of package poly answers, and what the reference of its chapter answers: one contract a function, for every float: the answer stands in the relation of its formula to what was given; of the memory that was there nothing has turned.
-/
import Derived.Test.YtdeooadeohojcaaGreatVec
import Derived.Test.YtdeooadeohojcaaGreatSb
import Derived.Below
import Derived.WalkKit
import Derived.WalkLawsBesides
import Derived.WalkSpells
import Derived.ProofKit
import Derived.OpenShut
import Derived.Deep.RegionHeld3
namespace Go.Proofs.YtdeooadeohojcaaGreat
open Go.ChangeShapes Go.WideShapes Go.ChangeAt Go.RowKit
set_option linter.unusedVariables false
set_option linter.unusedSimpArgs false


/-- what shapes answer -/
def hasS (k : Int) (r : Nat) (xs ys : Nat → Nat) (n p q : Nat) : Bool := if k = 1 then hcB (xs 0) (ys 0) r p q else if k = 2 then hcB (nxX xs ys p q) (nxY xs ys p q) r p q else hasV xs ys n p q
def hasA (k : Int) (r : Nat) (xs ys : Nat → Nat) (n p q : Nat) : Bool := if aE k r xs ys n p q = 0 then hasS k r xs ys n p q else false
theorem aE_no {k : Int} {r n p q : Nat} {xs ys : Nat → Nat} {v : Int} (h : shE k r xs ys n = v) (hv : ¬ v = 0) : aE k r xs ys n p q = v := by unfold aE; rw [h, if_neg hv]
theorem aE_out {k : Int} {r n p q : Nat} {xs ys : Nat → Nat} (h : shE k r xs ys n = 0) (g : (withinK .f64 p 4787326403894837248 && withinK .f64 q 4787326403894837248) = false) : aE k r xs ys n p q = 5 := by unfold aE inB; rw [if_pos h, g]; rfl
theorem aE_in {k : Int} {r n p q : Nat} {xs ys : Nat → Nat} (h : shE k r xs ys n = 0) (g : (withinK .f64 p 4787326403894837248 && withinK .f64 q 4787326403894837248) = true) : aE k r xs ys n p q = 0 := by unfold aE inB; rw [if_pos h, g]; rfl
theorem with_in {n p q : Nat} {xs ys : Nat → Nat} (h : chkE xs ys n = 0) (g : (withinK .f64 p 4787326403894837248 && withinK .f64 q 4787326403894837248) = true) : withE xs ys n p q = 0 := by unfold withE; rw [if_pos h, if_pos g]

set_option maxHeartbeats 4000000 in
theorem sHas_any (V : Value) (n : Nat) (xs ys : Nat → Nat) (k : Int) (r : Nat) (w : World) (h : AnyS w V n xs ys) (hr : okK .f64 r) (p q : Nat) (op : okK .f64 p) (oq : okK .f64 q) : Calls Tryz.prog 79 #[.agg #[.int .u8 k, .float .f64 r, V], .agg #[.float .f64 p, .float .f64 q]] w fun e w' => e = .returned (.tuple #[.bool (hasA k r xs ys n p q), .int .i64 (aE k r xs ys n p q)]) ∧ Bel w w' := by
  obtain ⟨a, c, rfl, _, _, _, o, _⟩ := id h
  by_cases hz : shE k r xs ys n = 0
  · cases hw : (withinK .f64 p 4787326403894837248 && withinK .f64 q 4787326403894837248)
    · obtain ⟨X, hX⟩ : ∃ X, ckR k r n (.slice a n c) xs ys = .tuple #[X, .int .i64 0] := ⟨_, by unfold ckR; rw [hz]⟩
      have z0_0 : (w.alloc (.cells #[.int .u8 k, .float .f64 r, .slice a n c] 38)).cell? ⟨w.heap.size, 0, none⟩ = some (.int .u8 k) := by rw [World.cell?_alloc_new]; rfl
      replace z0_0 := up_alloc (o := .cells #[.float .f64 p, .float .f64 q] 24) z0_0
      have z0_1 : (w.alloc (.cells #[.int .u8 k, .float .f64 r, .slice a n c] 38)).cell? ⟨w.heap.size, 1, none⟩ = some (.float .f64 r) := by rw [World.cell?_alloc_new]; rfl
      replace z0_1 := up_alloc (o := .cells #[.float .f64 p, .float .f64 q] 24) z0_1
      have z0_2 : (w.alloc (.cells #[.int .u8 k, .float .f64 r, .slice a n c] 38)).cell? ⟨w.heap.size, 2, none⟩ = some (.slice a n c) := by rw [World.cell?_alloc_new]; rfl
      replace z0_2 := up_alloc (o := .cells #[.float .f64 p, .float .f64 q] 24) z0_2
      have z1_0 : ((w.alloc (.cells #[.int .u8 k, .float .f64 r, .slice a n c] 38)).alloc (.cells #[.float .f64 p, .float .f64 q] 24)).cell? ⟨w.heap.size + 1, 0, none⟩ = some (.float .f64 p) := by rw [← (show (w.alloc (.cells #[.int .u8 k, .float .f64 r, .slice a n c] 38)).heap.size = w.heap.size + 1 by simp only [World.size_alloc]), World.cell?_alloc_new]; rfl
      have z1_1 : ((w.alloc (.cells #[.int .u8 k, .float .f64 r, .slice a n c] 38)).alloc (.cells #[.float .f64 p, .float .f64 q] 24)).cell? ⟨w.heap.size + 1, 1, none⟩ = some (.float .f64 q) := by rw [← (show (w.alloc (.cells #[.int .u8 k, .float .f64 r, .slice a n c] 38)).heap.size = w.heap.size + 1 by simp only [World.size_alloc]), World.cell?_alloc_new]; rfl
      have B0 : Bel w ((w.alloc (.cells #[.int .u8 k, .float .f64 r, .slice a n c] 38)).alloc (.cells #[.float .f64 p, .float .f64 q] 24)) := bl_alloc (bl_alloc (bl_refl w) _ _) _ _
      have h1 := h.bel B0
      go_enter Tryz.func79, Tryz.ntmps79
      go_wp2_with (first | (go_at_call 78; refine (checked_any _ _ xs ys k r _ h1).mono ?_; rintro e wc ⟨rfl, hb⟩; rw [hX]; have Bc := hb; have K0 := keep hb z1_0; have K1 := keep hb z1_1) | (go_at_call 16; refine (vWithin_any _ _ _ _).mono ?_; rintro e wd ⟨rfl, hb⟩; rw [hw]; replace Bc := bl_trans Bc hb))
      refine bodyPost_ret (v := .tuple #[.bool false, .int .i64 5]) (by simp [results, Tryz.results79, go_sem] <;> (first | exact ⟨⟨rfl, rfl⟩, rfl⟩ | exact ⟨rfl, rfl, rfl, rfl⟩ | exact ⟨rfl, rfl, rfl⟩ | exact ⟨rfl, rfl⟩ | rfl)) rfl ⟨by unfold hasA; rw [aE_out hz hw]; rfl, ?_⟩
      repeat (first | exact bl_refl _ | assumption | apply bl_drewN | apply bl_drew | apply bl_alloc | refine bl_set ?_ (by simp <;> omega) | refine bl_trans ?_ (by assumption))
    have hi := in_bd op oq (show inB p q = true from hw)
    obtain ⟨h4, h5⟩ := hi
    rcases sh_some o hr hz with ⟨rfl, rfl, g, hrb, _⟩ | ⟨rfl, rfl, g, hrb, _, hcp⟩ | ⟨rfl, h3, h8, hrz, hch, g⟩
    · obtain ⟨g1, g2⟩ := g 0 (by decide)
      have z0_0 : (w.alloc (.cells #[.int .u8 1, .float .f64 r, .slice a 1 c] 38)).cell? ⟨w.heap.size, 0, none⟩ = some (.int .u8 1) := by rw [World.cell?_alloc_new]; rfl
      replace z0_0 := up_alloc (o := .cells #[.float .f64 p, .float .f64 q] 24) z0_0
      have z0_1 : (w.alloc (.cells #[.int .u8 1, .float .f64 r, .slice a 1 c] 38)).cell? ⟨w.heap.size, 1, none⟩ = some (.float .f64 r) := by rw [World.cell?_alloc_new]; rfl
      replace z0_1 := up_alloc (o := .cells #[.float .f64 p, .float .f64 q] 24) z0_1
      have z0_2 : (w.alloc (.cells #[.int .u8 1, .float .f64 r, .slice a 1 c] 38)).cell? ⟨w.heap.size, 2, none⟩ = some (.slice a 1 c) := by rw [World.cell?_alloc_new]; rfl
      replace z0_2 := up_alloc (o := .cells #[.float .f64 p, .float .f64 q] 24) z0_2
      have z1_0 : ((w.alloc (.cells #[.int .u8 1, .float .f64 r, .slice a 1 c] 38)).alloc (.cells #[.float .f64 p, .float .f64 q] 24)).cell? ⟨w.heap.size + 1, 0, none⟩ = some (.float .f64 p) := by rw [← (show (w.alloc (.cells #[.int .u8 1, .float .f64 r, .slice a 1 c] 38)).heap.size = w.heap.size + 1 by simp only [World.size_alloc]), World.cell?_alloc_new]; rfl
      have z1_1 : ((w.alloc (.cells #[.int .u8 1, .float .f64 r, .slice a 1 c] 38)).alloc (.cells #[.float .f64 p, .float .f64 q] 24)).cell? ⟨w.heap.size + 1, 1, none⟩ = some (.float .f64 q) := by rw [← (show (w.alloc (.cells #[.int .u8 1, .float .f64 r, .slice a 1 c] 38)).heap.size = w.heap.size + 1 by simp only [World.size_alloc]), World.cell?_alloc_new]; rfl
      have B0 : Bel w ((w.alloc (.cells #[.int .u8 1, .float .f64 r, .slice a 1 c] 38)).alloc (.cells #[.float .f64 p, .float .f64 q] 24)) := bl_alloc (bl_alloc (bl_refl w) _ _) _ _
      have h1 := h.bel B0
      have hm := fun w => m_has1 (xs := xs) (ys := ys) (r := r) w
      skip
      go_enter Tryz.func79, Tryz.ntmps79
      go_wp2_with (first | (go_at_call 78; refine (checked_any _ _ xs ys 1 r _ h1).mono ?_; rintro e wc ⟨rfl, hb⟩; rw [ckR_1 hz]; have Bc := hb; have K0 := keep hb z1_0; have K1 := keep hb z1_1) | (go_at_call 16; refine (vWithin_any _ _ _ _).mono ?_; rintro e wd ⟨rfl, hb⟩; rw [hw]; replace Bc := bl_trans Bc hb; replace K0 := keep hb K0; replace K1 := keep hb K1) | (go_at_call 131; refine (cHas_d _ _ _ _ _ _ (wbd g1 200 (by decide)) (wbd g2 200 (by decide)) hrb (wbd h4 200 (by decide)) (wbd h5 200 (by decide))).mono ?_; rintro e w8 ⟨rfl, hb8⟩))
      refine bodyPost_ret (v := .tuple #[.bool (hcB (xs 0) (ys 0) r p q), .int .i64 0]) (by simp [results, Tryz.results79, go_sem] <;> (first | exact ⟨⟨rfl, rfl⟩, rfl⟩ | exact ⟨rfl, rfl, rfl, rfl⟩ | exact ⟨rfl, rfl, rfl⟩ | exact ⟨rfl, rfl⟩ | rfl)) rfl ⟨by unfold hasA; rw [aE_in hz hw]; rfl, ?_⟩
      repeat (first | exact bl_refl _ | assumption | apply bl_drewN | apply bl_drew | apply bl_alloc | refine bl_set ?_ (by simp <;> omega) | refine bl_trans ?_ (by assumption))
    · skip
      have z0_0 : (w.alloc (.cells #[.int .u8 2, .float .f64 r, .slice a 2 c] 38)).cell? ⟨w.heap.size, 0, none⟩ = some (.int .u8 2) := by rw [World.cell?_alloc_new]; rfl
      replace z0_0 := up_alloc (o := .cells #[.float .f64 p, .float .f64 q] 24) z0_0
      have z0_1 : (w.alloc (.cells #[.int .u8 2, .float .f64 r, .slice a 2 c] 38)).cell? ⟨w.heap.size, 1, none⟩ = some (.float .f64 r) := by rw [World.cell?_alloc_new]; rfl
      replace z0_1 := up_alloc (o := .cells #[.float .f64 p, .float .f64 q] 24) z0_1
      have z0_2 : (w.alloc (.cells #[.int .u8 2, .float .f64 r, .slice a 2 c] 38)).cell? ⟨w.heap.size, 2, none⟩ = some (.slice a 2 c) := by rw [World.cell?_alloc_new]; rfl
      replace z0_2 := up_alloc (o := .cells #[.float .f64 p, .float .f64 q] 24) z0_2
      have z1_0 : ((w.alloc (.cells #[.int .u8 2, .float .f64 r, .slice a 2 c] 38)).alloc (.cells #[.float .f64 p, .float .f64 q] 24)).cell? ⟨w.heap.size + 1, 0, none⟩ = some (.float .f64 p) := by rw [← (show (w.alloc (.cells #[.int .u8 2, .float .f64 r, .slice a 2 c] 38)).heap.size = w.heap.size + 1 by simp only [World.size_alloc]), World.cell?_alloc_new]; rfl
      have z1_1 : ((w.alloc (.cells #[.int .u8 2, .float .f64 r, .slice a 2 c] 38)).alloc (.cells #[.float .f64 p, .float .f64 q] 24)).cell? ⟨w.heap.size + 1, 1, none⟩ = some (.float .f64 q) := by rw [← (show (w.alloc (.cells #[.int .u8 2, .float .f64 r, .slice a 2 c] 38)).heap.size = w.heap.size + 1 by simp only [World.size_alloc]), World.cell?_alloc_new]; rfl
      have B0 : Bel w ((w.alloc (.cells #[.int .u8 2, .float .f64 r, .slice a 2 c] 38)).alloc (.cells #[.float .f64 p, .float .f64 q] 24)) := bl_alloc (bl_alloc (bl_refl w) _ _) _ _
      have h1 := h.bel B0
      have hm := fun w => m_has2 (xs := xs) (ys := ys) (r := r) w
      skip
      go_enter Tryz.func79, Tryz.ntmps79
      go_wp2_with (first | (go_at_call 78; refine (checked_any _ _ xs ys 2 r _ h1).mono ?_; rintro e wc ⟨rfl, hb⟩; rw [ckR_2 hz]; have Bc := hb; have K0 := keep hb z1_0; have K1 := keep hb z1_1) | (go_at_call 16; refine (vWithin_any _ _ _ _).mono ?_; rintro e wd ⟨rfl, hb⟩; rw [hw]; replace Bc := bl_trans Bc hb; replace K0 := keep hb K0; replace K1 := keep hb K1) | (go_at_call 135; refine (aHas_d xs ys r p q _ g hrb h4 h5 hcp).mono ?_; rintro e w8 ⟨rfl, hb8⟩))
      refine bodyPost_ret (v := .tuple #[.bool (hcB (nxX xs ys p q) (nxY xs ys p q) r p q), .int .i64 0]) (by simp [results, Tryz.results79, go_sem] <;> (first | exact ⟨⟨rfl, rfl⟩, rfl⟩ | exact ⟨rfl, rfl, rfl, rfl⟩ | exact ⟨rfl, rfl, rfl⟩ | exact ⟨rfl, rfl⟩ | rfl)) rfl ⟨by unfold hasA; rw [aE_in hz hw]; rfl, ?_⟩
      repeat (first | exact bl_refl _ | assumption | apply bl_drewN | apply bl_drew | apply bl_alloc | refine bl_set ?_ (by simp <;> omega) | refine bl_trans ?_ (by assumption))
    · skip
      have z0_0 : (w.alloc (.cells #[.int .u8 3, .float .f64 r, .slice a n c] 38)).cell? ⟨w.heap.size, 0, none⟩ = some (.int .u8 3) := by rw [World.cell?_alloc_new]; rfl
      replace z0_0 := up_alloc (o := .cells #[.float .f64 p, .float .f64 q] 24) z0_0
      have z0_1 : (w.alloc (.cells #[.int .u8 3, .float .f64 r, .slice a n c] 38)).cell? ⟨w.heap.size, 1, none⟩ = some (.float .f64 r) := by rw [World.cell?_alloc_new]; rfl
      replace z0_1 := up_alloc (o := .cells #[.float .f64 p, .float .f64 q] 24) z0_1
      have z0_2 : (w.alloc (.cells #[.int .u8 3, .float .f64 r, .slice a n c] 38)).cell? ⟨w.heap.size, 2, none⟩ = some (.slice a n c) := by rw [World.cell?_alloc_new]; rfl
      replace z0_2 := up_alloc (o := .cells #[.float .f64 p, .float .f64 q] 24) z0_2
      have z1_0 : ((w.alloc (.cells #[.int .u8 3, .float .f64 r, .slice a n c] 38)).alloc (.cells #[.float .f64 p, .float .f64 q] 24)).cell? ⟨w.heap.size + 1, 0, none⟩ = some (.float .f64 p) := by rw [← (show (w.alloc (.cells #[.int .u8 3, .float .f64 r, .slice a n c] 38)).heap.size = w.heap.size + 1 by simp only [World.size_alloc]), World.cell?_alloc_new]; rfl
      have z1_1 : ((w.alloc (.cells #[.int .u8 3, .float .f64 r, .slice a n c] 38)).alloc (.cells #[.float .f64 p, .float .f64 q] 24)).cell? ⟨w.heap.size + 1, 1, none⟩ = some (.float .f64 q) := by rw [← (show (w.alloc (.cells #[.int .u8 3, .float .f64 r, .slice a n c] 38)).heap.size = w.heap.size + 1 by simp only [World.size_alloc]), World.cell?_alloc_new]; rfl
      have B0 : Bel w ((w.alloc (.cells #[.int .u8 3, .float .f64 r, .slice a n c] 38)).alloc (.cells #[.float .f64 p, .float .f64 q] 24)) := bl_alloc (bl_alloc (bl_refl w) _ _) _ _
      have h1 := h.bel B0
      have hm := fun w => m_has3 (V := .slice a n c) w
      have hwz := with_in hch hw
      go_enter Tryz.func79, Tryz.ntmps79
      go_wp2_with (first | (go_at_call 78; refine (checked_any _ _ xs ys 3 r _ h1).mono ?_; rintro e wc ⟨rfl, hb⟩; rw [ckR_3 hz]; have Bc := hb; have K0 := keep hb z1_0; have K1 := keep hb z1_1) | (go_at_call 16; refine (vWithin_any _ _ _ _).mono ?_; rintro e wd ⟨rfl, hb⟩; rw [hw]; replace Bc := bl_trans Bc hb; replace K0 := keep hb K0; replace K1 := keep hb K1) | (go_at_call 141; refine (pHas_d _ n xs ys p q _ (h1.bel Bc) op oq).mono ?_; rintro e w8 ⟨rfl, hb8⟩))
      refine bodyPost_ret (v := .tuple #[.bool (hasV xs ys n p q), .int .i64 0]) (by simp [results, Tryz.results79, go_sem] <;> (first | exact ⟨⟨rfl, rfl⟩, rfl⟩ | exact ⟨rfl, rfl, rfl, rfl⟩ | exact ⟨rfl, rfl, rfl⟩ | exact ⟨rfl, rfl⟩ | rfl)) rfl ⟨by unfold hasA; rw [aE_in hz hw]; rfl, ?_⟩
      repeat (first | exact bl_refl _ | assumption | apply bl_drewN | apply bl_drew | apply bl_alloc | refine bl_set ?_ (by simp <;> omega) | refine bl_trans ?_ (by assumption))
  · skip
    have z0_0 : (w.alloc (.cells #[.int .u8 k, .float .f64 r, .slice a n c] 38)).cell? ⟨w.heap.size, 0, none⟩ = some (.int .u8 k) := by rw [World.cell?_alloc_new]; rfl
    replace z0_0 := up_alloc (o := .cells #[.float .f64 p, .float .f64 q] 24) z0_0
    have z0_1 : (w.alloc (.cells #[.int .u8 k, .float .f64 r, .slice a n c] 38)).cell? ⟨w.heap.size, 1, none⟩ = some (.float .f64 r) := by rw [World.cell?_alloc_new]; rfl
    replace z0_1 := up_alloc (o := .cells #[.float .f64 p, .float .f64 q] 24) z0_1
    have z0_2 : (w.alloc (.cells #[.int .u8 k, .float .f64 r, .slice a n c] 38)).cell? ⟨w.heap.size, 2, none⟩ = some (.slice a n c) := by rw [World.cell?_alloc_new]; rfl
    replace z0_2 := up_alloc (o := .cells #[.float .f64 p, .float .f64 q] 24) z0_2
    have z1_0 : ((w.alloc (.cells #[.int .u8 k, .float .f64 r, .slice a n c] 38)).alloc (.cells #[.float .f64 p, .float .f64 q] 24)).cell? ⟨w.heap.size + 1, 0, none⟩ = some (.float .f64 p) := by rw [← (show (w.alloc (.cells #[.int .u8 k, .float .f64 r, .slice a n c] 38)).heap.size = w.heap.size + 1 by simp only [World.size_alloc]), World.cell?_alloc_new]; rfl
    have z1_1 : ((w.alloc (.cells #[.int .u8 k, .float .f64 r, .slice a n c] 38)).alloc (.cells #[.float .f64 p, .float .f64 q] 24)).cell? ⟨w.heap.size + 1, 1, none⟩ = some (.float .f64 q) := by rw [← (show (w.alloc (.cells #[.int .u8 k, .float .f64 r, .slice a n c] 38)).heap.size = w.heap.size + 1 by simp only [World.size_alloc]), World.cell?_alloc_new]; rfl
    have B0 : Bel w ((w.alloc (.cells #[.int .u8 k, .float .f64 r, .slice a n c] 38)).alloc (.cells #[.float .f64 p, .float .f64 q] 24)) := bl_alloc (bl_alloc (bl_refl w) _ _) _ _
    have h1 := h.bel B0
    obtain ⟨v, hv⟩ : ∃ v, shE k r xs ys n = v := ⟨_, rfl⟩
    rw [hv] at hz
    go_enter Tryz.func79, Tryz.ntmps79
    go_wp2_with (first | (go_at_call 78; refine (checked_any _ _ xs ys k r _ h1).mono ?_; rintro e w' ⟨rfl, hb⟩; rw [ckR_no hv hz]))
    refine bodyPost_ret (v := .tuple #[.bool false, .int .i64 v]) (by simp [results, Tryz.results79, go_sem] <;> (first | exact ⟨⟨rfl, rfl⟩, rfl⟩ | exact ⟨rfl, rfl, rfl, rfl⟩ | exact ⟨rfl, rfl, rfl⟩ | exact ⟨rfl, rfl⟩ | rfl)) rfl ⟨by unfold hasA; rw [aE_no hv hz, if_neg hz], ?_⟩
    repeat (first | exact bl_refl _ | assumption | apply bl_drewN | apply bl_drew | apply bl_alloc | refine bl_set ?_ (by simp <;> omega) | refine bl_trans ?_ (by assumption))

end Go.Proofs.YtdeooadeohojcaaGreat
