/-
  What each function of package poly answers, and what the reference of its chapter answers: one contract a function, for every float: the answer stands in the relation of its formula to what was given; of the memory that was there nothing has turned.
-/
import Derived.Test.YtnbkjkbgfcpcfaaVec
import Derived.Test.YtnbkjkbgfcpcfaaSc
import Derived.Below
import Derived.WalkKit
import Derived.WalkLawsBesides
import Derived.WalkSpells
import Derived.ProofKit
import Derived.OpenShut
import Derived.Deep.RegionHeld3
namespace Go.Proofs.Ytnbkjkbgfcpcfaa
open Go.ChangeShapes Go.WideShapes Go.ChangeAt Go.RowKit
set_option linter.unusedVariables false
set_option linter.unusedSimpArgs false


theorem new4 (W : World) (t : TypeId) (x y z u : Value) : (W.alloc (.cells #[x, y, z, u] t)).cell? ⟨W.heap.size, 0, none⟩ = some x ∧ (W.alloc (.cells #[x, y, z, u] t)).cell? ⟨W.heap.size, 1, none⟩ = some y ∧ (W.alloc (.cells #[x, y, z, u] t)).cell? ⟨W.heap.size, 2, none⟩ = some z ∧ (W.alloc (.cells #[x, y, z, u] t)).cell? ⟨W.heap.size, 3, none⟩ = some u :=
  ⟨by rw [World.cell?_alloc_new]; rfl, by rw [World.cell?_alloc_new]; rfl, by rw [World.cell?_alloc_new]; rfl, by rw [World.cell?_alloc_new]; rfl⟩
theorem four_off {W Z : World} {n b o : Nat} {p q r s v : Value} (hne : n ≠ b) (hZ : Z = (((W.setCell ⟨n, 0, none⟩ p).setCell ⟨n, 1, none⟩ q).setCell ⟨n, 2, none⟩ r).setCell ⟨n, 3, none⟩ s) (h : W.cell? ⟨b, o, none⟩ = some v) : Z.cell? ⟨b, o, none⟩ = some v := by
  subst hZ
  exact up_set2 hne (up_set2 hne (up_set2 hne (up_set2 hne h)))
theorem xGrow_d {n lx ly hx hy m : Nat} (w : World) (h1 : Bd n lx) (h2 : Bd n ly) (h3 : Bd n hx) (h4 : Bd n hy) (h5 : Bd n m) : Calls Try.prog 106 #[.agg #[.float .f64 lx, .float .f64 ly, .float .f64 hx, .float .f64 hy], .float .f64 m] w fun e w' => e = .returned (.agg #[.float .f64 (Dv .sub lx m), .float .f64 (Dv .sub ly m), .float .f64 (Dv .add hx m), .float .f64 (Dv .add hy m)]) ∧ Bel w w' :=
  (xGrow_any _ _ _ _ _ w).mono fun e w' ⟨a, b, c, d, hG, he, hb⟩ => ⟨by
    obtain ⟨e1, e2⟩ := subR_d h1 h2 h5 h5 hG.1
    obtain ⟨e3, e4⟩ := addR_d h3 h4 h5 h5 hG.2
    rw [he, e1, e2, e3, e4], hb⟩

def boxA (k : Int) (r : Nat) (xs ys : Nat → Nat) (n : Nat) : Value := if shE k r xs ys n = 0 then .agg #[.float .f64 (bxL k r xs n), .float .f64 (bxL k r ys n), .float .f64 (bxH k r xs n), .float .f64 (bxH k r ys n)] else .agg #[.float .f64 0, .float .f64 0, .float .f64 0, .float .f64 0]
set_option maxHeartbeats 8000000 in
theorem sBox_any (V : Value) (n : Nat) (xs ys : Nat → Nat) (k : Int) (r : Nat) (w : World) (h : AnyS w V n xs ys) (hr : okK .f64 r) : Calls Try.prog 56 #[.agg #[.int .u8 k, .float .f64 r, V]] w fun e w' => e = .returned (.tuple #[boxA k r xs ys n, .int .i64 (shE k r xs ys n)]) ∧ Bel w w' := by
  obtain ⟨a, c, rfl, hcc, hm, _, o, hA⟩ := id h
  by_cases hz : shE k r xs ys n = 0
  · rcases sh_some o hr hz with ⟨rfl, rfl, g, hrb, _⟩ | ⟨rfl, rfl, g, hrb, _, hcp⟩ | ⟨rfl, h3, h8, hrz, hch, g⟩
    · have lb := low_bd (f := xs) (m := 40) 0 (fun i hi => (g i (by omega)).1)
      have mb := low_bd (f := ys) (m := 40) 0 (fun i hi => (g i (by omega)).2)
      obtain ⟨hp, b, off, rfl, hsl⟩ : 0 < 1 ∧ ∃ b off, a = some ⟨b, off, none⟩ ∧ Sl w b off 1 xs ys := by
        rcases hA with e | e
        · omega
        · exact e
      have hb0 := hsl.lt hp
      have z0_0 : (w.alloc (.cells #[.int .u8 1, .float .f64 r, .slice (some ⟨b, off, none⟩) 1 c] 33)).cell? ⟨w.heap.size, 0, none⟩ = some (.int .u8 1) := by rw [World.cell?_alloc_new]; rfl
      replace z0_0 := up_alloc (o := .cells #[.float .f64 0, .float .f64 0, .float .f64 0, .float .f64 0] 90) z0_0
      have z0_1 : (w.alloc (.cells #[.int .u8 1, .float .f64 r, .slice (some ⟨b, off, none⟩) 1 c] 33)).cell? ⟨w.heap.size, 1, none⟩ = some (.float .f64 r) := by rw [World.cell?_alloc_new]; rfl
      replace z0_1 := up_alloc (o := .cells #[.float .f64 0, .float .f64 0, .float .f64 0, .float .f64 0] 90) z0_1
      have z0_2 : (w.alloc (.cells #[.int .u8 1, .float .f64 r, .slice (some ⟨b, off, none⟩) 1 c] 33)).cell? ⟨w.heap.size, 2, none⟩ = some (.slice (some ⟨b, off, none⟩) 1 c) := by rw [World.cell?_alloc_new]; rfl
      replace z0_2 := up_alloc (o := .cells #[.float .f64 0, .float .f64 0, .float .f64 0, .float .f64 0] 90) z0_2
      have z1_0 : ((w.alloc (.cells #[.int .u8 1, .float .f64 r, .slice (some ⟨b, off, none⟩) 1 c] 33)).alloc (.cells #[.float .f64 0, .float .f64 0, .float .f64 0, .float .f64 0] 90)).cell? ⟨w.heap.size + 1, 0, none⟩ = some (.float .f64 0) := by rw [← (show (w.alloc (.cells #[.int .u8 1, .float .f64 r, .slice (some ⟨b, off, none⟩) 1 c] 33)).heap.size = w.heap.size + 1 by simp only [World.size_alloc]), World.cell?_alloc_new]; rfl
      have z1_1 : ((w.alloc (.cells #[.int .u8 1, .float .f64 r, .slice (some ⟨b, off, none⟩) 1 c] 33)).alloc (.cells #[.float .f64 0, .float .f64 0, .float .f64 0, .float .f64 0] 90)).cell? ⟨w.heap.size + 1, 1, none⟩ = some (.float .f64 0) := by rw [← (show (w.alloc (.cells #[.int .u8 1, .float .f64 r, .slice (some ⟨b, off, none⟩) 1 c] 33)).heap.size = w.heap.size + 1 by simp only [World.size_alloc]), World.cell?_alloc_new]; rfl
      have z1_2 : ((w.alloc (.cells #[.int .u8 1, .float .f64 r, .slice (some ⟨b, off, none⟩) 1 c] 33)).alloc (.cells #[.float .f64 0, .float .f64 0, .float .f64 0, .float .f64 0] 90)).cell? ⟨w.heap.size + 1, 2, none⟩ = some (.float .f64 0) := by rw [← (show (w.alloc (.cells #[.int .u8 1, .float .f64 r, .slice (some ⟨b, off, none⟩) 1 c] 33)).heap.size = w.heap.size + 1 by simp only [World.size_alloc]), World.cell?_alloc_new]; rfl
      have z1_3 : ((w.alloc (.cells #[.int .u8 1, .float .f64 r, .slice (some ⟨b, off, none⟩) 1 c] 33)).alloc (.cells #[.float .f64 0, .float .f64 0, .float .f64 0, .float .f64 0] 90)).cell? ⟨w.heap.size + 1, 3, none⟩ = some (.float .f64 0) := by rw [← (show (w.alloc (.cells #[.int .u8 1, .float .f64 r, .slice (some ⟨b, off, none⟩) 1 c] 33)).heap.size = w.heap.size + 1 by simp only [World.size_alloc]), World.cell?_alloc_new]; rfl
      have B0 : Bel w ((w.alloc (.cells #[.int .u8 1, .float .f64 r, .slice (some ⟨b, off, none⟩) 1 c] 33)).alloc (.cells #[.float .f64 0, .float .f64 0, .float .f64 0, .float .f64 0] 90)) := bl_alloc (bl_alloc (bl_refl w) _ _) _ _
      have h1 := h.bel B0
      have hq1 : w.heap.size ≤ w.heap.size + 1 := Nat.le_succ _
      go_enter Try.func56, Try.ntmps56
      go_wp2_with (first | (go_at_call 45; refine (checked_any _ _ xs ys 1 r _ h1).mono ?_; rintro e wc ⟨rfl, hb⟩; rw [ckR_1 hz]; have Bc := bl_trans B0 hb; have Bx := hb; have K2 := keep hb z0_2; have R0 := keep hb z1_0; have R1 := keep hb z1_1; have R2 := keep hb z1_2; have R3 := keep hb z1_3) | (go_at_call 105; refine (xOf_some b off 0 c xs ys _ hm hcc (Nat.lt_of_lt_of_le hb0 Bc.size) (hsl.bel Bc)).mono ?_; rintro e wo ⟨rfl, hb⟩; replace Bc := bl_trans Bc hb; replace R0 := keep hb R0; replace R1 := keep hb R1; replace R2 := keep hb R2; replace R3 := keep hb R3; obtain ⟨E0, E1, E2, E3⟩ := new4 wo 90 (.float .f64 (lowK xs 0)) (.float .f64 (lowK ys 0)) (.float .f64 (highK xs 0)) (.float .f64 (highK ys 0)); replace R0 := up_alloc (o := .cells #[.float .f64 (lowK xs 0), .float .f64 (lowK ys 0), .float .f64 (highK xs 0), .float .f64 (highK ys 0)] 90) R0; replace R1 := up_alloc (o := .cells #[.float .f64 (lowK xs 0), .float .f64 (lowK ys 0), .float .f64 (highK xs 0), .float .f64 (highK ys 0)] 90) R1; replace R2 := up_alloc (o := .cells #[.float .f64 (lowK xs 0), .float .f64 (lowK ys 0), .float .f64 (highK xs 0), .float .f64 (highK ys 0)] 90) R2; replace R3 := up_alloc (o := .cells #[.float .f64 (lowK xs 0), .float .f64 (lowK ys 0), .float .f64 (highK xs 0), .float .f64 (highK ys 0)] 90) R3; have hle := (bl_trans Bx hb).size; simp only [World.size_alloc] at hle; have hq2 : w.heap.size ≤ wo.heap.size := (by omega); replace Bc := bl_alloc Bc #[.float .f64 (lowK xs 0), .float .f64 (lowK ys 0), .float .f64 (highK xs 0), .float .f64 (highK ys 0)] 90; have B2 := bl_refl (wo.alloc (.cells #[.float .f64 (lowK xs 0), .float .f64 (lowK ys 0), .float .f64 (highK xs 0), .float .f64 (highK ys 0)] 90))) | (go_at_call 53; refine (rim1 xs ys r _).mono ?_; rintro e wr ⟨rfl, hb⟩; replace Bc := bl_trans Bc hb; replace B2 := bl_trans B2 hb; replace R0 := keep hb R0; replace R1 := keep hb R1; replace R2 := keep hb R2; replace R3 := keep hb R3; replace E0 := keep hb E0; replace E1 := keep hb E1; replace E2 := keep hb E2; replace E3 := keep hb E3; have Z := fun o => (Bc.2 ⟨w.heap.size + 1, o, none⟩).trans (fresh_frozen (by show _ ≤ _; omega))) | (go_at_call 106; refine (xGrow_d _ lb.1 mb.1 lb.2 mb.2 hrb).mono ?_; rintro e wg ⟨rfl, hb⟩; replace Bc := bl_trans Bc hb; replace B2 := bl_trans B2 hb; replace R0 := keep hb R0; replace R1 := keep hb R1; replace R2 := keep hb R2; replace R3 := keep hb R3; replace E0 := keep hb E0; replace E1 := keep hb E1; replace E2 := keep hb E2; replace E3 := keep hb E3; replace Z := fun o => (Bc.2 ⟨w.heap.size + 1, o, none⟩).trans (fresh_frozen (by show _ ≤ _; omega)); have ZE := fun o => (B2.2 ⟨wo.heap.size, o, none⟩).trans (fz_alloc (fresh_frozen (by show _ ≤ _; omega))); obtain ⟨WZ, hWZ⟩ : ∃ Z, Z = (((wg.setCell ⟨wo.heap.size, 0, none⟩ (.float .f64 (Dv .sub (lowK xs 0) r))).setCell ⟨wo.heap.size, 1, none⟩ (.float .f64 (Dv .sub (lowK ys 0) r))).setCell ⟨wo.heap.size, 2, none⟩ (.float .f64 (Dv .add (highK xs 0) r))).setCell ⟨wo.heap.size, 3, none⟩ (.float .f64 (Dv .add (highK ys 0) r)) := ⟨_, rfl⟩; obtain ⟨D0, D1, D2, D3⟩ := set4 E0 E1 E2 E3 hWZ; have hne : wo.heap.size ≠ w.heap.size + 1 := (by omega); replace R0 := four_off hne hWZ R0; replace R1 := four_off hne hWZ R1; replace R2 := four_off hne hWZ R2; replace R3 := four_off hne hWZ R3; rw [hWZ] at D0 D1 D2 D3 R0 R1 R2 R3))
      obtain ⟨S0, S1, S2, S3⟩ := set4 (p := .float .f64 (Dv .sub (lowK xs 0) r)) (q := .float .f64 (Dv .sub (lowK ys 0) r)) (r := .float .f64 (Dv .add (highK xs 0) r)) (s := .float .f64 (Dv .add (highK ys 0) r)) R0 R1 R2 R3 rfl
      refine bodyPost_ret (v := .tuple #[.agg #[.float .f64 (Dv .sub (lowK xs 0) r), .float .f64 (Dv .sub (lowK ys 0) r), .float .f64 (Dv .add (highK xs 0) r), .float .f64 (Dv .add (highK ys 0) r)], .int .i64 0]) (by simp [S0, S1, S2, S3, results, Try.results56, go_sem] <;> (first | exact ⟨⟨rfl, rfl⟩, rfl⟩ | exact ⟨rfl, rfl, rfl, rfl⟩ | exact ⟨rfl, rfl, rfl⟩ | exact ⟨rfl, rfl⟩ | rfl)) rfl ⟨by unfold boxA; rw [if_pos hz, hz]; rfl, bl_set (bl_set (bl_set (bl_set (bl_set (bl_set (bl_set (bl_set (Bc) (show _ ≤ _ by exact hq2)) (show _ ≤ _ by exact hq2)) (show _ ≤ _ by exact hq2)) (show _ ≤ _ by exact hq2)) (show _ ≤ _ by exact hq1)) (show _ ≤ _ by exact hq1)) (show _ ≤ _ by exact hq1)) (show _ ≤ _ by exact hq1)⟩
    · have lb := low_bd (f := xs) (m := 40) 1 (fun i hi => (g i (by omega)).1)
      have mb := low_bd (f := ys) (m := 40) 1 (fun i hi => (g i (by omega)).2)
      obtain ⟨hp, b, off, rfl, hsl⟩ : 0 < 2 ∧ ∃ b off, a = some ⟨b, off, none⟩ ∧ Sl w b off 2 xs ys := by
        rcases hA with e | e
        · omega
        · exact e
      have hb0 := hsl.lt hp
      have z0_0 : (w.alloc (.cells #[.int .u8 2, .float .f64 r, .slice (some ⟨b, off, none⟩) 2 c] 33)).cell? ⟨w.heap.size, 0, none⟩ = some (.int .u8 2) := by rw [World.cell?_alloc_new]; rfl
      replace z0_0 := up_alloc (o := .cells #[.float .f64 0, .float .f64 0, .float .f64 0, .float .f64 0] 90) z0_0
      have z0_1 : (w.alloc (.cells #[.int .u8 2, .float .f64 r, .slice (some ⟨b, off, none⟩) 2 c] 33)).cell? ⟨w.heap.size, 1, none⟩ = some (.float .f64 r) := by rw [World.cell?_alloc_new]; rfl
      replace z0_1 := up_alloc (o := .cells #[.float .f64 0, .float .f64 0, .float .f64 0, .float .f64 0] 90) z0_1
      have z0_2 : (w.alloc (.cells #[.int .u8 2, .float .f64 r, .slice (some ⟨b, off, none⟩) 2 c] 33)).cell? ⟨w.heap.size, 2, none⟩ = some (.slice (some ⟨b, off, none⟩) 2 c) := by rw [World.cell?_alloc_new]; rfl
      replace z0_2 := up_alloc (o := .cells #[.float .f64 0, .float .f64 0, .float .f64 0, .float .f64 0] 90) z0_2
      have z1_0 : ((w.alloc (.cells #[.int .u8 2, .float .f64 r, .slice (some ⟨b, off, none⟩) 2 c] 33)).alloc (.cells #[.float .f64 0, .float .f64 0, .float .f64 0, .float .f64 0] 90)).cell? ⟨w.heap.size + 1, 0, none⟩ = some (.float .f64 0) := by rw [← (show (w.alloc (.cells #[.int .u8 2, .float .f64 r, .slice (some ⟨b, off, none⟩) 2 c] 33)).heap.size = w.heap.size + 1 by simp only [World.size_alloc]), World.cell?_alloc_new]; rfl
      have z1_1 : ((w.alloc (.cells #[.int .u8 2, .float .f64 r, .slice (some ⟨b, off, none⟩) 2 c] 33)).alloc (.cells #[.float .f64 0, .float .f64 0, .float .f64 0, .float .f64 0] 90)).cell? ⟨w.heap.size + 1, 1, none⟩ = some (.float .f64 0) := by rw [← (show (w.alloc (.cells #[.int .u8 2, .float .f64 r, .slice (some ⟨b, off, none⟩) 2 c] 33)).heap.size = w.heap.size + 1 by simp only [World.size_alloc]), World.cell?_alloc_new]; rfl
      have z1_2 : ((w.alloc (.cells #[.int .u8 2, .float .f64 r, .slice (some ⟨b, off, none⟩) 2 c] 33)).alloc (.cells #[.float .f64 0, .float .f64 0, .float .f64 0, .float .f64 0] 90)).cell? ⟨w.heap.size + 1, 2, none⟩ = some (.float .f64 0) := by rw [← (show (w.alloc (.cells #[.int .u8 2, .float .f64 r, .slice (some ⟨b, off, none⟩) 2 c] 33)).heap.size = w.heap.size + 1 by simp only [World.size_alloc]), World.cell?_alloc_new]; rfl
      have z1_3 : ((w.alloc (.cells #[.int .u8 2, .float .f64 r, .slice (some ⟨b, off, none⟩) 2 c] 33)).alloc (.cells #[.float .f64 0, .float .f64 0, .float .f64 0, .float .f64 0] 90)).cell? ⟨w.heap.size + 1, 3, none⟩ = some (.float .f64 0) := by rw [← (show (w.alloc (.cells #[.int .u8 2, .float .f64 r, .slice (some ⟨b, off, none⟩) 2 c] 33)).heap.size = w.heap.size + 1 by simp only [World.size_alloc]), World.cell?_alloc_new]; rfl
      have B0 : Bel w ((w.alloc (.cells #[.int .u8 2, .float .f64 r, .slice (some ⟨b, off, none⟩) 2 c] 33)).alloc (.cells #[.float .f64 0, .float .f64 0, .float .f64 0, .float .f64 0] 90)) := bl_alloc (bl_alloc (bl_refl w) _ _) _ _
      have h1 := h.bel B0
      have hq1 : w.heap.size ≤ w.heap.size + 1 := Nat.le_succ _
      go_enter Try.func56, Try.ntmps56
      go_wp2_with (first | (go_at_call 45; refine (checked_any _ _ xs ys 2 r _ h1).mono ?_; rintro e wc ⟨rfl, hb⟩; rw [ckR_2 hz]; have Bc := bl_trans B0 hb; have Bx := hb; have K2 := keep hb z0_2; have R0 := keep hb z1_0; have R1 := keep hb z1_1; have R2 := keep hb z1_2; have R3 := keep hb z1_3) | (go_at_call 105; refine (xOf_some b off 1 c xs ys _ hm hcc (Nat.lt_of_lt_of_le hb0 Bc.size) (hsl.bel Bc)).mono ?_; rintro e wo ⟨rfl, hb⟩; replace Bc := bl_trans Bc hb; replace R0 := keep hb R0; replace R1 := keep hb R1; replace R2 := keep hb R2; replace R3 := keep hb R3; obtain ⟨E0, E1, E2, E3⟩ := new4 wo 90 (.float .f64 (lowK xs 1)) (.float .f64 (lowK ys 1)) (.float .f64 (highK xs 1)) (.float .f64 (highK ys 1)); replace R0 := up_alloc (o := .cells #[.float .f64 (lowK xs 1), .float .f64 (lowK ys 1), .float .f64 (highK xs 1), .float .f64 (highK ys 1)] 90) R0; replace R1 := up_alloc (o := .cells #[.float .f64 (lowK xs 1), .float .f64 (lowK ys 1), .float .f64 (highK xs 1), .float .f64 (highK ys 1)] 90) R1; replace R2 := up_alloc (o := .cells #[.float .f64 (lowK xs 1), .float .f64 (lowK ys 1), .float .f64 (highK xs 1), .float .f64 (highK ys 1)] 90) R2; replace R3 := up_alloc (o := .cells #[.float .f64 (lowK xs 1), .float .f64 (lowK ys 1), .float .f64 (highK xs 1), .float .f64 (highK ys 1)] 90) R3; have hle := (bl_trans Bx hb).size; simp only [World.size_alloc] at hle; have hq2 : w.heap.size ≤ wo.heap.size := (by omega); replace Bc := bl_alloc Bc #[.float .f64 (lowK xs 1), .float .f64 (lowK ys 1), .float .f64 (highK xs 1), .float .f64 (highK ys 1)] 90; have B2 := bl_refl (wo.alloc (.cells #[.float .f64 (lowK xs 1), .float .f64 (lowK ys 1), .float .f64 (highK xs 1), .float .f64 (highK ys 1)] 90))) | (go_at_call 53; refine (rim2 xs ys r _).mono ?_; rintro e wr ⟨rfl, hb⟩; replace Bc := bl_trans Bc hb; replace B2 := bl_trans B2 hb; replace R0 := keep hb R0; replace R1 := keep hb R1; replace R2 := keep hb R2; replace R3 := keep hb R3; replace E0 := keep hb E0; replace E1 := keep hb E1; replace E2 := keep hb E2; replace E3 := keep hb E3; have Z := fun o => (Bc.2 ⟨w.heap.size + 1, o, none⟩).trans (fresh_frozen (by show _ ≤ _; omega))) | (go_at_call 106; refine (xGrow_d _ lb.1 mb.1 lb.2 mb.2 hrb).mono ?_; rintro e wg ⟨rfl, hb⟩; replace Bc := bl_trans Bc hb; replace B2 := bl_trans B2 hb; replace R0 := keep hb R0; replace R1 := keep hb R1; replace R2 := keep hb R2; replace R3 := keep hb R3; replace E0 := keep hb E0; replace E1 := keep hb E1; replace E2 := keep hb E2; replace E3 := keep hb E3; replace Z := fun o => (Bc.2 ⟨w.heap.size + 1, o, none⟩).trans (fresh_frozen (by show _ ≤ _; omega)); have ZE := fun o => (B2.2 ⟨wo.heap.size, o, none⟩).trans (fz_alloc (fresh_frozen (by show _ ≤ _; omega))); obtain ⟨WZ, hWZ⟩ : ∃ Z, Z = (((wg.setCell ⟨wo.heap.size, 0, none⟩ (.float .f64 (Dv .sub (lowK xs 1) r))).setCell ⟨wo.heap.size, 1, none⟩ (.float .f64 (Dv .sub (lowK ys 1) r))).setCell ⟨wo.heap.size, 2, none⟩ (.float .f64 (Dv .add (highK xs 1) r))).setCell ⟨wo.heap.size, 3, none⟩ (.float .f64 (Dv .add (highK ys 1) r)) := ⟨_, rfl⟩; obtain ⟨D0, D1, D2, D3⟩ := set4 E0 E1 E2 E3 hWZ; have hne : wo.heap.size ≠ w.heap.size + 1 := (by omega); replace R0 := four_off hne hWZ R0; replace R1 := four_off hne hWZ R1; replace R2 := four_off hne hWZ R2; replace R3 := four_off hne hWZ R3; rw [hWZ] at D0 D1 D2 D3 R0 R1 R2 R3))
      obtain ⟨S0, S1, S2, S3⟩ := set4 (p := .float .f64 (Dv .sub (lowK xs 1) r)) (q := .float .f64 (Dv .sub (lowK ys 1) r)) (r := .float .f64 (Dv .add (highK xs 1) r)) (s := .float .f64 (Dv .add (highK ys 1) r)) R0 R1 R2 R3 rfl
      refine bodyPost_ret (v := .tuple #[.agg #[.float .f64 (Dv .sub (lowK xs 1) r), .float .f64 (Dv .sub (lowK ys 1) r), .float .f64 (Dv .add (highK xs 1) r), .float .f64 (Dv .add (highK ys 1) r)], .int .i64 0]) (by simp [S0, S1, S2, S3, results, Try.results56, go_sem] <;> (first | exact ⟨⟨rfl, rfl⟩, rfl⟩ | exact ⟨rfl, rfl, rfl, rfl⟩ | exact ⟨rfl, rfl, rfl⟩ | exact ⟨rfl, rfl⟩ | rfl)) rfl ⟨by unfold boxA; rw [if_pos hz, hz]; rfl, bl_set (bl_set (bl_set (bl_set (bl_set (bl_set (bl_set (bl_set (Bc) (show _ ≤ _ by exact hq2)) (show _ ≤ _ by exact hq2)) (show _ ≤ _ by exact hq2)) (show _ ≤ _ by exact hq2)) (show _ ≤ _ by exact hq1)) (show _ ≤ _ by exact hq1)) (show _ ≤ _ by exact hq1)) (show _ ≤ _ by exact hq1)⟩
    · obtain ⟨hp, b, off, rfl, hsl⟩ : 0 < n ∧ ∃ b off, a = some ⟨b, off, none⟩ ∧ Sl w b off n xs ys := by
        rcases hA with e | e
        · omega
        · exact e
      have hb0 := hsl.lt hp
      obtain ⟨m, rfl⟩ : ∃ m, n = m + 1 := ⟨n - 1, by omega⟩
      have z0_0 : (w.alloc (.cells #[.int .u8 3, .float .f64 r, .slice (some ⟨b, off, none⟩) (m + 1) c] 33)).cell? ⟨w.heap.size, 0, none⟩ = some (.int .u8 3) := by rw [World.cell?_alloc_new]; rfl
      replace z0_0 := up_alloc (o := .cells #[.float .f64 0, .float .f64 0, .float .f64 0, .float .f64 0] 90) z0_0
      have z0_1 : (w.alloc (.cells #[.int .u8 3, .float .f64 r, .slice (some ⟨b, off, none⟩) (m + 1) c] 33)).cell? ⟨w.heap.size, 1, none⟩ = some (.float .f64 r) := by rw [World.cell?_alloc_new]; rfl
      replace z0_1 := up_alloc (o := .cells #[.float .f64 0, .float .f64 0, .float .f64 0, .float .f64 0] 90) z0_1
      have z0_2 : (w.alloc (.cells #[.int .u8 3, .float .f64 r, .slice (some ⟨b, off, none⟩) (m + 1) c] 33)).cell? ⟨w.heap.size, 2, none⟩ = some (.slice (some ⟨b, off, none⟩) (m + 1) c) := by rw [World.cell?_alloc_new]; rfl
      replace z0_2 := up_alloc (o := .cells #[.float .f64 0, .float .f64 0, .float .f64 0, .float .f64 0] 90) z0_2
      have z1_0 : ((w.alloc (.cells #[.int .u8 3, .float .f64 r, .slice (some ⟨b, off, none⟩) (m + 1) c] 33)).alloc (.cells #[.float .f64 0, .float .f64 0, .float .f64 0, .float .f64 0] 90)).cell? ⟨w.heap.size + 1, 0, none⟩ = some (.float .f64 0) := by rw [← (show (w.alloc (.cells #[.int .u8 3, .float .f64 r, .slice (some ⟨b, off, none⟩) (m + 1) c] 33)).heap.size = w.heap.size + 1 by simp only [World.size_alloc]), World.cell?_alloc_new]; rfl
      have z1_1 : ((w.alloc (.cells #[.int .u8 3, .float .f64 r, .slice (some ⟨b, off, none⟩) (m + 1) c] 33)).alloc (.cells #[.float .f64 0, .float .f64 0, .float .f64 0, .float .f64 0] 90)).cell? ⟨w.heap.size + 1, 1, none⟩ = some (.float .f64 0) := by rw [← (show (w.alloc (.cells #[.int .u8 3, .float .f64 r, .slice (some ⟨b, off, none⟩) (m + 1) c] 33)).heap.size = w.heap.size + 1 by simp only [World.size_alloc]), World.cell?_alloc_new]; rfl
      have z1_2 : ((w.alloc (.cells #[.int .u8 3, .float .f64 r, .slice (some ⟨b, off, none⟩) (m + 1) c] 33)).alloc (.cells #[.float .f64 0, .float .f64 0, .float .f64 0, .float .f64 0] 90)).cell? ⟨w.heap.size + 1, 2, none⟩ = some (.float .f64 0) := by rw [← (show (w.alloc (.cells #[.int .u8 3, .float .f64 r, .slice (some ⟨b, off, none⟩) (m + 1) c] 33)).heap.size = w.heap.size + 1 by simp only [World.size_alloc]), World.cell?_alloc_new]; rfl
      have z1_3 : ((w.alloc (.cells #[.int .u8 3, .float .f64 r, .slice (some ⟨b, off, none⟩) (m + 1) c] 33)).alloc (.cells #[.float .f64 0, .float .f64 0, .float .f64 0, .float .f64 0] 90)).cell? ⟨w.heap.size + 1, 3, none⟩ = some (.float .f64 0) := by rw [← (show (w.alloc (.cells #[.int .u8 3, .float .f64 r, .slice (some ⟨b, off, none⟩) (m + 1) c] 33)).heap.size = w.heap.size + 1 by simp only [World.size_alloc]), World.cell?_alloc_new]; rfl
      have B0 : Bel w ((w.alloc (.cells #[.int .u8 3, .float .f64 r, .slice (some ⟨b, off, none⟩) (m + 1) c] 33)).alloc (.cells #[.float .f64 0, .float .f64 0, .float .f64 0, .float .f64 0] 90)) := bl_alloc (bl_alloc (bl_refl w) _ _) _ _
      have h1 := h.bel B0
      have hq1 : w.heap.size ≤ w.heap.size + 1 := Nat.le_succ _
      go_enter Try.func56, Try.ntmps56
      go_wp2_with (first | (go_at_call 45; refine (checked_any _ _ xs ys 3 r _ h1).mono ?_; rintro e wc ⟨rfl, hb⟩; rw [ckR_3 hz]; have Bc := bl_trans B0 hb; have Bx := hb; have K2 := keep hb z0_2; have R0 := keep hb z1_0; have R1 := keep hb z1_1; have R2 := keep hb z1_2; have R3 := keep hb z1_3) | (go_at_call 105; refine (xOf_some b off m c xs ys _ hm hcc (Nat.lt_of_lt_of_le hb0 Bc.size) (hsl.bel Bc)).mono ?_; rintro e wo ⟨rfl, hb⟩; replace Bc := bl_trans Bc hb; replace R0 := keep hb R0; replace R1 := keep hb R1; replace R2 := keep hb R2; replace R3 := keep hb R3; obtain ⟨E0, E1, E2, E3⟩ := new4 wo 90 (.float .f64 (lowK xs m)) (.float .f64 (lowK ys m)) (.float .f64 (highK xs m)) (.float .f64 (highK ys m)); replace R0 := up_alloc (o := .cells #[.float .f64 (lowK xs m), .float .f64 (lowK ys m), .float .f64 (highK xs m), .float .f64 (highK ys m)] 90) R0; replace R1 := up_alloc (o := .cells #[.float .f64 (lowK xs m), .float .f64 (lowK ys m), .float .f64 (highK xs m), .float .f64 (highK ys m)] 90) R1; replace R2 := up_alloc (o := .cells #[.float .f64 (lowK xs m), .float .f64 (lowK ys m), .float .f64 (highK xs m), .float .f64 (highK ys m)] 90) R2; replace R3 := up_alloc (o := .cells #[.float .f64 (lowK xs m), .float .f64 (lowK ys m), .float .f64 (highK xs m), .float .f64 (highK ys m)] 90) R3; have hle := (bl_trans Bx hb).size; simp only [World.size_alloc] at hle; have hq2 : w.heap.size ≤ wo.heap.size := (by omega); replace Bc := bl_alloc Bc #[.float .f64 (lowK xs m), .float .f64 (lowK ys m), .float .f64 (highK xs m), .float .f64 (highK ys m)] 90; have B2 := bl_refl (wo.alloc (.cells #[.float .f64 (lowK xs m), .float .f64 (lowK ys m), .float .f64 (highK xs m), .float .f64 (highK ys m)] 90))) | (go_at_call 53; refine (rim3 _ _).mono ?_; rintro e wr ⟨rfl, hb⟩; replace Bc := bl_trans Bc hb; replace B2 := bl_trans B2 hb; replace R0 := keep hb R0; replace R1 := keep hb R1; replace R2 := keep hb R2; replace R3 := keep hb R3; replace E0 := keep hb E0; replace E1 := keep hb E1; replace E2 := keep hb E2; replace E3 := keep hb E3; have Z := fun o => (Bc.2 ⟨w.heap.size + 1, o, none⟩).trans (fresh_frozen (by show _ ≤ _; omega))))
      obtain ⟨S0, S1, S2, S3⟩ := set4 (p := .float .f64 (lowK xs m)) (q := .float .f64 (lowK ys m)) (r := .float .f64 (highK xs m)) (s := .float .f64 (highK ys m)) R0 R1 R2 R3 rfl
      refine bodyPost_ret (v := .tuple #[.agg #[.float .f64 (lowK xs m), .float .f64 (lowK ys m), .float .f64 (highK xs m), .float .f64 (highK ys m)], .int .i64 0]) (by simp [S0, S1, S2, S3, results, Try.results56, go_sem] <;> (first | exact ⟨⟨rfl, rfl⟩, rfl⟩ | exact ⟨rfl, rfl, rfl, rfl⟩ | exact ⟨rfl, rfl, rfl⟩ | exact ⟨rfl, rfl⟩ | rfl)) rfl ⟨by unfold boxA; rw [if_pos hz, hz]; rfl, bl_set (bl_set (bl_set (bl_set (Bc) (show _ ≤ _ by exact hq1)) (show _ ≤ _ by exact hq1)) (show _ ≤ _ by exact hq1)) (show _ ≤ _ by exact hq1)⟩
  · obtain ⟨v, hv⟩ : ∃ v, shE k r xs ys n = v := ⟨_, rfl⟩
    have hz0 := hz
    rw [hv] at hz
    have z0_0 : (w.alloc (.cells #[.int .u8 k, .float .f64 r, .slice a n c] 33)).cell? ⟨w.heap.size, 0, none⟩ = some (.int .u8 k) := by rw [World.cell?_alloc_new]; rfl
    replace z0_0 := up_alloc (o := .cells #[.float .f64 0, .float .f64 0, .float .f64 0, .float .f64 0] 90) z0_0
    have z0_1 : (w.alloc (.cells #[.int .u8 k, .float .f64 r, .slice a n c] 33)).cell? ⟨w.heap.size, 1, none⟩ = some (.float .f64 r) := by rw [World.cell?_alloc_new]; rfl
    replace z0_1 := up_alloc (o := .cells #[.float .f64 0, .float .f64 0, .float .f64 0, .float .f64 0] 90) z0_1
    have z0_2 : (w.alloc (.cells #[.int .u8 k, .float .f64 r, .slice a n c] 33)).cell? ⟨w.heap.size, 2, none⟩ = some (.slice a n c) := by rw [World.cell?_alloc_new]; rfl
    replace z0_2 := up_alloc (o := .cells #[.float .f64 0, .float .f64 0, .float .f64 0, .float .f64 0] 90) z0_2
    have z1_0 : ((w.alloc (.cells #[.int .u8 k, .float .f64 r, .slice a n c] 33)).alloc (.cells #[.float .f64 0, .float .f64 0, .float .f64 0, .float .f64 0] 90)).cell? ⟨w.heap.size + 1, 0, none⟩ = some (.float .f64 0) := by rw [← (show (w.alloc (.cells #[.int .u8 k, .float .f64 r, .slice a n c] 33)).heap.size = w.heap.size + 1 by simp only [World.size_alloc]), World.cell?_alloc_new]; rfl
    have z1_1 : ((w.alloc (.cells #[.int .u8 k, .float .f64 r, .slice a n c] 33)).alloc (.cells #[.float .f64 0, .float .f64 0, .float .f64 0, .float .f64 0] 90)).cell? ⟨w.heap.size + 1, 1, none⟩ = some (.float .f64 0) := by rw [← (show (w.alloc (.cells #[.int .u8 k, .float .f64 r, .slice a n c] 33)).heap.size = w.heap.size + 1 by simp only [World.size_alloc]), World.cell?_alloc_new]; rfl
    have z1_2 : ((w.alloc (.cells #[.int .u8 k, .float .f64 r, .slice a n c] 33)).alloc (.cells #[.float .f64 0, .float .f64 0, .float .f64 0, .float .f64 0] 90)).cell? ⟨w.heap.size + 1, 2, none⟩ = some (.float .f64 0) := by rw [← (show (w.alloc (.cells #[.int .u8 k, .float .f64 r, .slice a n c] 33)).heap.size = w.heap.size + 1 by simp only [World.size_alloc]), World.cell?_alloc_new]; rfl
    have z1_3 : ((w.alloc (.cells #[.int .u8 k, .float .f64 r, .slice a n c] 33)).alloc (.cells #[.float .f64 0, .float .f64 0, .float .f64 0, .float .f64 0] 90)).cell? ⟨w.heap.size + 1, 3, none⟩ = some (.float .f64 0) := by rw [← (show (w.alloc (.cells #[.int .u8 k, .float .f64 r, .slice a n c] 33)).heap.size = w.heap.size + 1 by simp only [World.size_alloc]), World.cell?_alloc_new]; rfl
    have B0 : Bel w ((w.alloc (.cells #[.int .u8 k, .float .f64 r, .slice a n c] 33)).alloc (.cells #[.float .f64 0, .float .f64 0, .float .f64 0, .float .f64 0] 90)) := bl_alloc (bl_alloc (bl_refl w) _ _) _ _
    have h1 := h.bel B0
    go_enter Try.func56, Try.ntmps56
    go_wp2_with (first | (go_at_call 45; refine (checked_any _ _ xs ys k r _ h1).mono ?_; rintro e wc ⟨rfl, hb⟩; rw [ckR_no hv hz]; have Bc := bl_trans B0 hb; have R0 := keep hb z1_0; have R1 := keep hb z1_1; have R2 := keep hb z1_2; have R3 := keep hb z1_3; have Z := fun o => (Bc.2 ⟨w.heap.size + 1, o, none⟩).trans (fresh_frozen (by show _ ≤ _; omega))))
    obtain ⟨S0, S1, S2, S3⟩ := set4 (p := .float .f64 0) (q := .float .f64 0) (r := .float .f64 0) (s := .float .f64 0) R0 R1 R2 R3 rfl
    refine bodyPost_ret (v := .tuple #[.agg #[.float .f64 0, .float .f64 0, .float .f64 0, .float .f64 0], .int .i64 v]) (by simp [S0, S1, S2, S3, results, Try.results56, go_sem] <;> (first | exact ⟨⟨rfl, rfl⟩, rfl⟩ | exact ⟨rfl, rfl, rfl, rfl⟩ | exact ⟨rfl, rfl, rfl⟩ | exact ⟨rfl, rfl⟩ | rfl)) rfl ⟨by unfold boxA; rw [if_neg hz0, hv], ?_⟩
    repeat (first | exact bl_refl _ | assumption | apply bl_drewN | apply bl_drew | apply bl_alloc | refine bl_set ?_ (by simp <;> omega) | refine bl_trans ?_ (by assumption))

theorem sh_gd {k : Int} {r n : Nat} {xs ys : Nat → Nat} (o : Oks xs ys n) (hr : okK .f64 r) (h : shE k r xs ys n = 0) : Gd xs ys n ∧ 1 ≤ n ∧ n ≤ 8 ∧ Bd 40 r := by
  rcases sh_some o hr h with ⟨rfl, rfl, g, hrb, _⟩ | ⟨rfl, rfl, g, hrb, _, hcp⟩ | ⟨rfl, h3, h8, hrz, hch, g⟩
  · exact ⟨g, by decide, by decide, hrb⟩
  · exact ⟨g, by decide, by decide, hrb⟩
  · exact ⟨g, by omega, h8, eq_zero_bd hr hrz 40⟩
set_option maxHeartbeats 4000000 in
theorem sReach_any (V : Value) (n : Nat) (xs ys : Nat → Nat) (k : Int) (r : Nat) (w : World) (h : AnyS w V n xs ys) (hr : okK .f64 r) (p q : Nat) (op : okK .f64 p) (oq : okK .f64 q) : Calls Try.prog 19 #[.agg #[.int .u8 k, .float .f64 r, V], .agg #[.float .f64 p, .float .f64 q]] w fun e w' => e = .returned (.tuple #[.float .f64 (reaK k r xs ys n p q), .int .i64 (aE k r xs ys n p q)]) ∧ Bel w w' := by
  obtain ⟨a, c, rfl, hcc, hm, _, o, hA⟩ := id h
  by_cases hz : shE k r xs ys n = 0
  · obtain ⟨g, hn1, hn8, hrb⟩ := sh_gd o hr hz
    obtain ⟨hp, b, off, rfl, hsl⟩ : 0 < n ∧ ∃ b off, a = some ⟨b, off, none⟩ ∧ Sl w b off n xs ys := by
      rcases hA with e | e
      · omega
      · exact e
    have hb0 := hsl.lt hp
    have z0_0 : (w.alloc (.cells #[.int .u8 k, .float .f64 r, .slice (some ⟨b, off, none⟩) n c] 33)).cell? ⟨w.heap.size, 0, none⟩ = some (.int .u8 k) := by rw [World.cell?_alloc_new]; rfl
    replace z0_0 := up_alloc (o := .cells #[.float .f64 p, .float .f64 q] 36) z0_0
    have z0_1 : (w.alloc (.cells #[.int .u8 k, .float .f64 r, .slice (some ⟨b, off, none⟩) n c] 33)).cell? ⟨w.heap.size, 1, none⟩ = some (.float .f64 r) := by rw [World.cell?_alloc_new]; rfl
    replace z0_1 := up_alloc (o := .cells #[.float .f64 p, .float .f64 q] 36) z0_1
    have z0_2 : (w.alloc (.cells #[.int .u8 k, .float .f64 r, .slice (some ⟨b, off, none⟩) n c] 33)).cell? ⟨w.heap.size, 2, none⟩ = some (.slice (some ⟨b, off, none⟩) n c) := by rw [World.cell?_alloc_new]; rfl
    replace z0_2 := up_alloc (o := .cells #[.float .f64 p, .float .f64 q] 36) z0_2
    have z1_0 : ((w.alloc (.cells #[.int .u8 k, .float .f64 r, .slice (some ⟨b, off, none⟩) n c] 33)).alloc (.cells #[.float .f64 p, .float .f64 q] 36)).cell? ⟨w.heap.size + 1, 0, none⟩ = some (.float .f64 p) := by rw [← (show (w.alloc (.cells #[.int .u8 k, .float .f64 r, .slice (some ⟨b, off, none⟩) n c] 33)).heap.size = w.heap.size + 1 by simp only [World.size_alloc]), World.cell?_alloc_new]; rfl
    have z1_1 : ((w.alloc (.cells #[.int .u8 k, .float .f64 r, .slice (some ⟨b, off, none⟩) n c] 33)).alloc (.cells #[.float .f64 p, .float .f64 q] 36)).cell? ⟨w.heap.size + 1, 1, none⟩ = some (.float .f64 q) := by rw [← (show (w.alloc (.cells #[.int .u8 k, .float .f64 r, .slice (some ⟨b, off, none⟩) n c] 33)).heap.size = w.heap.size + 1 by simp only [World.size_alloc]), World.cell?_alloc_new]; rfl
    have B0 : Bel w ((w.alloc (.cells #[.int .u8 k, .float .f64 r, .slice (some ⟨b, off, none⟩) n c] 33)).alloc (.cells #[.float .f64 p, .float .f64 q] 36)) := bl_alloc (bl_alloc (bl_refl w) _ _) _ _
    have h1 := h.bel B0
    cases hw : (withinK .f64 p 4787326403894837248 && withinK .f64 q 4787326403894837248)
    · go_enter Try.func19, Try.ntmps19
      go_wp2_with (first | (go_at_call 16; refine (check_any _ _ xs ys k r _ h1).mono ?_; rintro e wc ⟨rfl, hb⟩; rw [hz]; have Bc := bl_trans B0 hb; have K0 := keep hb z1_0; have K1 := keep hb z1_1) | (go_at_call 49; refine (vWithin_any _ _ _ _).mono ?_; rintro e wd ⟨rfl, hb⟩; rw [hw]; replace Bc := bl_trans Bc hb))
      refine bodyPost_ret (v := .tuple #[.float .f64 0, .int .i64 5]) (by simp [results, Try.results19, go_sem] <;> (first | exact ⟨⟨rfl, rfl⟩, rfl⟩ | exact ⟨rfl, rfl, rfl, rfl⟩ | exact ⟨rfl, rfl, rfl⟩ | exact ⟨rfl, rfl⟩ | rfl)) rfl ⟨by unfold reaK; rw [aE_out hz hw]; rfl, ?_⟩
      repeat (first | exact bl_refl _ | assumption | apply bl_drewN | apply bl_drew | apply bl_alloc | refine bl_set ?_ (by simp <;> omega) | refine bl_trans ?_ (by assumption))
    · obtain ⟨h4, h5⟩ := in_bd op oq (show inB p q = true from hw)
      have hadd := fun t W => run_add_dv Try.prog t (rcK xs ys p q (n - 1)) r W (rc_bd g h4 h5 (n - 1) (by omega)).2.1 hrb.2.1
      go_enter Try.func19, Try.ntmps19
      go_wp2_with (first | (go_at_call 16; refine (check_any _ _ xs ys k r _ h1).mono ?_; rintro e wc ⟨rfl, hb⟩; rw [hz]; have Bc := bl_trans B0 hb; have K0 := keep hb z1_0; have K1 := keep hb z1_1; have S1 := keep hb z0_1; have S2 := keep hb z0_2) | (go_at_call 49; refine (vWithin_any _ _ _ _).mono ?_; rintro e wd ⟨rfl, hb⟩; rw [hw]; replace Bc := bl_trans Bc hb; replace K0 := keep hb K0; replace K1 := keep hb K1; replace S1 := keep hb S1; replace S2 := keep hb S2))
      go_loopw [21, 7] (fun i' f' wr => ∃ k : Nat, k ≤ n ∧ i' = .int .i64 k ∧ f' = .float .f64 (rcG xs ys p q k) ∧ Bel w wr ∧ wr.cell? ⟨w.heap.size + 1, 0, none⟩ = some (.float .f64 p) ∧ wr.cell? ⟨w.heap.size + 1, 1, none⟩ = some (.float .f64 q) ∧ wr.cell? ⟨w.heap.size, 1, none⟩ = some (.float .f64 r)) (fun i' _ _ => n - (intOf i').toNat)
      case atStart => exact ⟨0, by omega, rfl, rfl, Bc, K0, K1, S1⟩
      case round =>
        obtain ⟨k, hk, rfl, rfl, hB, d0, d1, d2⟩ := hrel
        by_cases hlt : k < n
        · have k1 : (k : Int) < (n : Int) := by omega
          obtain ⟨g1, g2⟩ := g k hlt
          have s1 : Bd 42 (Dv .sub (xs k) p) := bd_sub g1 h4 (by decide)
          have s2 : Bd 42 (Dv .sub (ys k) q) := bd_sub g2 h5 (by decide)
          obtain ⟨x0, x1⟩ := (hsl.bel hB) k hlt
          have hbb : b < wr.heap.size := Nat.lt_of_lt_of_le hb0 hB.size
          have est := rc_step g h4 h5 k hlt
          have u0 := up_alloc (o := .cells #[.float .f64 (xs k), .float .f64 (ys k)] 36) d0
          have u1 := up_alloc (o := .cells #[.float .f64 (xs k), .float .f64 (ys k)] 36) d1
          have u2 := up_alloc (o := .cells #[.float .f64 (xs k), .float .f64 (ys k)] 36) d2
          have BA := bl_alloc hB #[.float .f64 (xs k), .float .f64 (ys k)] 36
          go_wp2_with (first | (go_at_call 52; refine (vSub_d _ (by with_reducible assumption) (by with_reducible assumption) (by with_reducible assumption) (by with_reducible assumption)).mono ?_; rintro e ws ⟨rfl, hb⟩; have BB := hb) | (go_at_call 51; refine (vLength_d _ (by with_reducible assumption) (by with_reducible assumption) (by decide)).mono ?_; rintro e wl ⟨rfl, hb⟩; replace BB := bl_trans BB hb) | (go_at_call 50; refine (most_6 _ _ _).mono ?_; rintro e wm ⟨rfl, hw⟩; rw [hw, est]))
          exact ⟨⟨k + 1, by omega, by go_num, rfl, bl_trans BA BB, keep BB u0, keep BB u1, keep BB u2⟩, by simp [intOf]; omega⟩
        · have hkn : k = n := by omega
          subst hkn
          obtain ⟨m, rfl⟩ : ∃ m, k = m + 1 := ⟨k - 1, by omega⟩
          simp only [rcG]
          rw [Nat.add_sub_cancel] at hadd
          go_wp2
          refine bodyPost_ret (v := .tuple #[.float .f64 (Dv .add (rcK xs ys p q m) r), .int .i64 0]) (by simp [results, Try.results19, go_sem] <;> (first | exact ⟨⟨rfl, rfl⟩, rfl⟩ | exact ⟨rfl, rfl, rfl, rfl⟩ | exact ⟨rfl, rfl, rfl⟩ | exact ⟨rfl, rfl⟩ | rfl)) rfl ⟨by unfold reaK; rw [aE_in hz hw]; rfl, hB⟩
  · obtain ⟨v, hv⟩ : ∃ v, shE k r xs ys n = v := ⟨_, rfl⟩
    rw [hv] at hz
    have z0_0 : (w.alloc (.cells #[.int .u8 k, .float .f64 r, .slice a n c] 33)).cell? ⟨w.heap.size, 0, none⟩ = some (.int .u8 k) := by rw [World.cell?_alloc_new]; rfl
    replace z0_0 := up_alloc (o := .cells #[.float .f64 p, .float .f64 q] 36) z0_0
    have z0_1 : (w.alloc (.cells #[.int .u8 k, .float .f64 r, .slice a n c] 33)).cell? ⟨w.heap.size, 1, none⟩ = some (.float .f64 r) := by rw [World.cell?_alloc_new]; rfl
    replace z0_1 := up_alloc (o := .cells #[.float .f64 p, .float .f64 q] 36) z0_1
    have z0_2 : (w.alloc (.cells #[.int .u8 k, .float .f64 r, .slice a n c] 33)).cell? ⟨w.heap.size, 2, none⟩ = some (.slice a n c) := by rw [World.cell?_alloc_new]; rfl
    replace z0_2 := up_alloc (o := .cells #[.float .f64 p, .float .f64 q] 36) z0_2
    have z1_0 : ((w.alloc (.cells #[.int .u8 k, .float .f64 r, .slice a n c] 33)).alloc (.cells #[.float .f64 p, .float .f64 q] 36)).cell? ⟨w.heap.size + 1, 0, none⟩ = some (.float .f64 p) := by rw [← (show (w.alloc (.cells #[.int .u8 k, .float .f64 r, .slice a n c] 33)).heap.size = w.heap.size + 1 by simp only [World.size_alloc]), World.cell?_alloc_new]; rfl
    have z1_1 : ((w.alloc (.cells #[.int .u8 k, .float .f64 r, .slice a n c] 33)).alloc (.cells #[.float .f64 p, .float .f64 q] 36)).cell? ⟨w.heap.size + 1, 1, none⟩ = some (.float .f64 q) := by rw [← (show (w.alloc (.cells #[.int .u8 k, .float .f64 r, .slice a n c] 33)).heap.size = w.heap.size + 1 by simp only [World.size_alloc]), World.cell?_alloc_new]; rfl
    have B0 : Bel w ((w.alloc (.cells #[.int .u8 k, .float .f64 r, .slice a n c] 33)).alloc (.cells #[.float .f64 p, .float .f64 q] 36)) := bl_alloc (bl_alloc (bl_refl w) _ _) _ _
    have h1 := h.bel B0
    go_enter Try.func19, Try.ntmps19
    go_wp2_with (first | (go_at_call 16; refine (check_any _ _ xs ys k r _ h1).mono ?_; rintro e wc ⟨rfl, hb⟩; rw [hv]))
    refine bodyPost_ret (v := .tuple #[.float .f64 0, .int .i64 v]) (by simp [results, Try.results19, go_sem] <;> (first | exact ⟨⟨rfl, rfl⟩, rfl⟩ | exact ⟨rfl, rfl, rfl, rfl⟩ | exact ⟨rfl, rfl, rfl⟩ | exact ⟨rfl, rfl⟩ | rfl)) rfl ⟨by unfold reaK; rw [aE_no hv hz, if_neg hz], ?_⟩
    repeat (first | exact bl_refl _ | assumption | apply bl_drewN | apply bl_drew | apply bl_alloc | refine bl_set ?_ (by simp <;> omega) | refine bl_trans ?_ (by assumption))

end Go.Proofs.Ytnbkjkbgfcpcfaa
