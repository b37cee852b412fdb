/-
  What each function of package poly answers, and what the reference of its chapter answers: one contract a function, for every float: the answer stands in the relation of its formula to what was given; of the memory that was there nothing has turned.
-/
import Derived.Test.YtiamgphpcjokmabVec
import Derived.Test.YtiamgphpcjokmabRu
import Derived.Below
import Derived.WalkKit
import Derived.WalkLawsBesides
import Derived.WalkSpells
import Derived.ProofKit
import Derived.OpenShut
import Derived.Deep.RegionHeld3
namespace Go.Proofs.Ytiamgphpcjokmab
open Go.ChangeShapes Go.WideShapes Go.ChangeAt Go.RowKit
set_option linter.unusedVariables false
set_option linter.unusedSimpArgs false


set_option maxHeartbeats 8000000 in
theorem rFar7 (V : Value) (n : Nat) (xs ys : Nat → Nat) (k : Int) (r : Nat) (w : World) (h : AnyS w V n xs ys) (hr : okK .f64 r) (p q : Nat) (op : okK .f64 p) (oq : okK .f64 q) : Calls Try.prog 13 #[.agg #[.int .u8 k, .float .f64 r, V], .agg #[.float .f64 p, .float .f64 q]] w fun e w' => e = .returned (.tuple #[.agg #[.float .f64 (farX k r xs ys n p q), .float .f64 (farY k r xs ys n p q)], .int .i64 (aE k r xs ys n p q)]) ∧ Bel w w' := by
  obtain ⟨a, c, rfl, hcc, hm, _, o, hA⟩ := id h
  by_cases hz : shE k r xs ys n = 0
  · obtain ⟨_, hn1, _, _⟩ := sh_gd o hr hz
    obtain ⟨hp, b, off, rfl, hsl⟩ : 0 < n ∧ ∃ b off, a = some ⟨b, off, none⟩ ∧ Sl w b off n xs ys := by
      rcases hA with e | e
      · omega
      · exact e
    have hb0 := hsl.lt hp
    cases hw : (withinK .f64 p 4787326403894837248 && withinK .f64 q 4787326403894837248)
    · obtain ⟨e1, e2⟩ := farX_no (aE_out hz hw) (by decide)
      have z0_0 : (w.alloc (.cells #[.int .u8 k, .float .f64 r, .slice (some ⟨b, off, none⟩) n c] 25)).cell? ⟨w.heap.size, 0, none⟩ = some (.int .u8 k) := by rw [World.cell?_alloc_new]; rfl
      replace z0_0 := up_alloc (o := .cells #[.float .f64 p, .float .f64 q] 27) z0_0
      replace z0_0 := up_alloc (o := .cells #[.float .f64 0, .float .f64 0] 27) z0_0
      have z0_1 : (w.alloc (.cells #[.int .u8 k, .float .f64 r, .slice (some ⟨b, off, none⟩) n c] 25)).cell? ⟨w.heap.size, 1, none⟩ = some (.float .f64 r) := by rw [World.cell?_alloc_new]; rfl
      replace z0_1 := up_alloc (o := .cells #[.float .f64 p, .float .f64 q] 27) z0_1
      replace z0_1 := up_alloc (o := .cells #[.float .f64 0, .float .f64 0] 27) z0_1
      have z0_2 : (w.alloc (.cells #[.int .u8 k, .float .f64 r, .slice (some ⟨b, off, none⟩) n c] 25)).cell? ⟨w.heap.size, 2, none⟩ = some (.slice (some ⟨b, off, none⟩) n c) := by rw [World.cell?_alloc_new]; rfl
      replace z0_2 := up_alloc (o := .cells #[.float .f64 p, .float .f64 q] 27) z0_2
      replace z0_2 := up_alloc (o := .cells #[.float .f64 0, .float .f64 0] 27) z0_2
      have z1_0 : ((w.alloc (.cells #[.int .u8 k, .float .f64 r, .slice (some ⟨b, off, none⟩) n c] 25)).alloc (.cells #[.float .f64 p, .float .f64 q] 27)).cell? ⟨w.heap.size + 1, 0, none⟩ = some (.float .f64 p) := by rw [← (show (w.alloc (.cells #[.int .u8 k, .float .f64 r, .slice (some ⟨b, off, none⟩) n c] 25)).heap.size = w.heap.size + 1 by simp only [World.size_alloc]), World.cell?_alloc_new]; rfl
      replace z1_0 := up_alloc (o := .cells #[.float .f64 0, .float .f64 0] 27) z1_0
      have z1_1 : ((w.alloc (.cells #[.int .u8 k, .float .f64 r, .slice (some ⟨b, off, none⟩) n c] 25)).alloc (.cells #[.float .f64 p, .float .f64 q] 27)).cell? ⟨w.heap.size + 1, 1, none⟩ = some (.float .f64 q) := by rw [← (show (w.alloc (.cells #[.int .u8 k, .float .f64 r, .slice (some ⟨b, off, none⟩) n c] 25)).heap.size = w.heap.size + 1 by simp only [World.size_alloc]), World.cell?_alloc_new]; rfl
      replace z1_1 := up_alloc (o := .cells #[.float .f64 0, .float .f64 0] 27) z1_1
      have z2_0 : (((w.alloc (.cells #[.int .u8 k, .float .f64 r, .slice (some ⟨b, off, none⟩) n c] 25)).alloc (.cells #[.float .f64 p, .float .f64 q] 27)).alloc (.cells #[.float .f64 0, .float .f64 0] 27)).cell? ⟨w.heap.size + 1 + 1, 0, none⟩ = some (.float .f64 0) := by rw [← (show ((w.alloc (.cells #[.int .u8 k, .float .f64 r, .slice (some ⟨b, off, none⟩) n c] 25)).alloc (.cells #[.float .f64 p, .float .f64 q] 27)).heap.size = w.heap.size + 1 + 1 by simp only [World.size_alloc]), World.cell?_alloc_new]; rfl
      have z2_1 : (((w.alloc (.cells #[.int .u8 k, .float .f64 r, .slice (some ⟨b, off, none⟩) n c] 25)).alloc (.cells #[.float .f64 p, .float .f64 q] 27)).alloc (.cells #[.float .f64 0, .float .f64 0] 27)).cell? ⟨w.heap.size + 1 + 1, 1, none⟩ = some (.float .f64 0) := by rw [← (show ((w.alloc (.cells #[.int .u8 k, .float .f64 r, .slice (some ⟨b, off, none⟩) n c] 25)).alloc (.cells #[.float .f64 p, .float .f64 q] 27)).heap.size = w.heap.size + 1 + 1 by simp only [World.size_alloc]), World.cell?_alloc_new]; rfl
      have B0 : Bel w (((w.alloc (.cells #[.int .u8 k, .float .f64 r, .slice (some ⟨b, off, none⟩) n c] 25)).alloc (.cells #[.float .f64 p, .float .f64 q] 27)).alloc (.cells #[.float .f64 0, .float .f64 0] 27)) := bl_alloc (bl_alloc (bl_alloc (bl_refl w) _ _) _ _) _ _
      have h1 := h.bel B0
      go_enter Try.func13, Try.ntmps13
      go_wp2_with (first | (go_at_call 40; refine (rchk7 _ _ xs ys k r _ h1).mono ?_; rintro e wc ⟨rfl, hb⟩; rw [hz]; have Bc := bl_trans B0 hb; have S0 := keep hb z0_0; have S1 := keep hb z0_1; have S2 := keep hb z0_2; have K0 := keep hb z1_0; have K1 := keep hb z1_1; have R0 := keep hb z2_0; have R1 := keep hb z2_1; have hbc := hb) | (go_at_call 43; refine (real7 _ _ _ op oq).mono ?_; rintro e wd ⟨rfl, hb⟩; unfold inB; rw [hw]; replace Bc := bl_trans Bc hb; replace S0 := keep hb S0; replace S1 := keep hb S1; replace S2 := keep hb S2; replace K0 := keep hb K0; replace K1 := keep hb K1; replace R0 := keep hb R0; replace R1 := keep hb R1; have hld := (bl_trans hbc hb).size; (try simp only [World.size_alloc] at hld); have ZR := fun o => (Bc.2 ⟨w.heap.size + 1 + 1, o, none⟩).trans (fresh_frozen (by show _ ≤ _; omega))))
      obtain ⟨F0, F1⟩ := set2 (p := .float .f64 0) (q := .float .f64 0) R0 R1
      refine bodyPost_ret (v := .tuple #[.agg #[.float .f64 0, .float .f64 0], .int .i64 5]) (by simp [F0, F1, results, Try.results13, go_sem] <;> (first | exact ⟨⟨rfl, rfl⟩, rfl⟩ | exact ⟨rfl, rfl, rfl, rfl⟩ | exact ⟨rfl, rfl, rfl⟩ | exact ⟨rfl, rfl⟩ | rfl)) rfl ⟨by rw [e1, e2, aE_out hz hw], bl_set (bl_set Bc (show w.heap.size ≤ w.heap.size + 1 + 1 by omega)) (show w.heap.size ≤ w.heap.size + 1 + 1 by omega)⟩
    obtain ⟨h4, h5⟩ := in_bd op oq (show inB p q = true from hw)
    rcases sh_some o hr hz with ⟨rfl, rfl, g, hrb, _⟩ | ⟨rfl, rfl, g, hrb, _, hcp⟩ | ⟨rfl, h3, h8, hrz, hch, g⟩
    · obtain ⟨b1, b2⟩ := g 0 (by decide)
      obtain ⟨a0, a1⟩ := hsl 0 (by decide)
      rw [show off + 0 * 2 = off by omega] at a0 a1
      have z0_0 : (w.alloc (.cells #[.int .u8 1, .float .f64 r, .slice (some ⟨b, off, none⟩) 1 c] 25)).cell? ⟨w.heap.size, 0, none⟩ = some (.int .u8 1) := by rw [World.cell?_alloc_new]; rfl
      replace z0_0 := up_alloc (o := .cells #[.float .f64 p, .float .f64 q] 27) z0_0
      replace z0_0 := up_alloc (o := .cells #[.float .f64 0, .float .f64 0] 27) z0_0
      have z0_1 : (w.alloc (.cells #[.int .u8 1, .float .f64 r, .slice (some ⟨b, off, none⟩) 1 c] 25)).cell? ⟨w.heap.size, 1, none⟩ = some (.float .f64 r) := by rw [World.cell?_alloc_new]; rfl
      replace z0_1 := up_alloc (o := .cells #[.float .f64 p, .float .f64 q] 27) z0_1
      replace z0_1 := up_alloc (o := .cells #[.float .f64 0, .float .f64 0] 27) z0_1
      have z0_2 : (w.alloc (.cells #[.int .u8 1, .float .f64 r, .slice (some ⟨b, off, none⟩) 1 c] 25)).cell? ⟨w.heap.size, 2, none⟩ = some (.slice (some ⟨b, off, none⟩) 1 c) := by rw [World.cell?_alloc_new]; rfl
      replace z0_2 := up_alloc (o := .cells #[.float .f64 p, .float .f64 q] 27) z0_2
      replace z0_2 := up_alloc (o := .cells #[.float .f64 0, .float .f64 0] 27) z0_2
      have z1_0 : ((w.alloc (.cells #[.int .u8 1, .float .f64 r, .slice (some ⟨b, off, none⟩) 1 c] 25)).alloc (.cells #[.float .f64 p, .float .f64 q] 27)).cell? ⟨w.heap.size + 1, 0, none⟩ = some (.float .f64 p) := by rw [← (show (w.alloc (.cells #[.int .u8 1, .float .f64 r, .slice (some ⟨b, off, none⟩) 1 c] 25)).heap.size = w.heap.size + 1 by simp only [World.size_alloc]), World.cell?_alloc_new]; rfl
      replace z1_0 := up_alloc (o := .cells #[.float .f64 0, .float .f64 0] 27) z1_0
      have z1_1 : ((w.alloc (.cells #[.int .u8 1, .float .f64 r, .slice (some ⟨b, off, none⟩) 1 c] 25)).alloc (.cells #[.float .f64 p, .float .f64 q] 27)).cell? ⟨w.heap.size + 1, 1, none⟩ = some (.float .f64 q) := by rw [← (show (w.alloc (.cells #[.int .u8 1, .float .f64 r, .slice (some ⟨b, off, none⟩) 1 c] 25)).heap.size = w.heap.size + 1 by simp only [World.size_alloc]), World.cell?_alloc_new]; rfl
      replace z1_1 := up_alloc (o := .cells #[.float .f64 0, .float .f64 0] 27) z1_1
      have z2_0 : (((w.alloc (.cells #[.int .u8 1, .float .f64 r, .slice (some ⟨b, off, none⟩) 1 c] 25)).alloc (.cells #[.float .f64 p, .float .f64 q] 27)).alloc (.cells #[.float .f64 0, .float .f64 0] 27)).cell? ⟨w.heap.size + 1 + 1, 0, none⟩ = some (.float .f64 0) := by rw [← (show ((w.alloc (.cells #[.int .u8 1, .float .f64 r, .slice (some ⟨b, off, none⟩) 1 c] 25)).alloc (.cells #[.float .f64 p, .float .f64 q] 27)).heap.size = w.heap.size + 1 + 1 by simp only [World.size_alloc]), World.cell?_alloc_new]; rfl
      have z2_1 : (((w.alloc (.cells #[.int .u8 1, .float .f64 r, .slice (some ⟨b, off, none⟩) 1 c] 25)).alloc (.cells #[.float .f64 p, .float .f64 q] 27)).alloc (.cells #[.float .f64 0, .float .f64 0] 27)).cell? ⟨w.heap.size + 1 + 1, 1, none⟩ = some (.float .f64 0) := by rw [← (show ((w.alloc (.cells #[.int .u8 1, .float .f64 r, .slice (some ⟨b, off, none⟩) 1 c] 25)).alloc (.cells #[.float .f64 p, .float .f64 q] 27)).heap.size = w.heap.size + 1 + 1 by simp only [World.size_alloc]), World.cell?_alloc_new]; rfl
      have B0 : Bel w (((w.alloc (.cells #[.int .u8 1, .float .f64 r, .slice (some ⟨b, off, none⟩) 1 c] 25)).alloc (.cells #[.float .f64 p, .float .f64 q] 27)).alloc (.cells #[.float .f64 0, .float .f64 0] 27)) := bl_alloc (bl_alloc (bl_alloc (bl_refl w) _ _) _ _) _ _
      have h1 := h.bel B0
      cases hu : unB p q
      · go_enter Try.func13, Try.ntmps13
        go_wp2_with (first | (go_at_call 40; refine (rchk7 _ _ xs ys 1 r _ h1).mono ?_; rintro e wc ⟨rfl, hb⟩; rw [hz]; have Bc := bl_trans B0 hb; have S0 := keep hb z0_0; have S1 := keep hb z0_1; have S2 := keep hb z0_2; have K0 := keep hb z1_0; have K1 := keep hb z1_1; have R0 := keep hb z2_0; have R1 := keep hb z2_1; have hbc := hb) | (go_at_call 43; refine (real7 _ _ _ op oq).mono ?_; rintro e wd ⟨rfl, hb⟩; unfold inB; rw [hw]; replace Bc := bl_trans Bc hb; replace S0 := keep hb S0; replace S1 := keep hb S1; replace S2 := keep hb S2; replace K0 := keep hb K0; replace K1 := keep hb K1; replace R0 := keep hb R0; replace R1 := keep hb R1; have hld := (bl_trans hbc hb).size; (try simp only [World.size_alloc] at hld); have x0 := keep Bc a0; have x1 := keep Bc a1; have hbb := Nat.lt_of_lt_of_le hb0 Bc.size))
        skip
        have Bq := bl_alloc Bc #[.float .f64 (xs 0), .float .f64 (ys 0)] 27
        obtain ⟨Q0, Q1, _⟩ := new2 wd 27 (.float .f64 (xs 0)) (.float .f64 (ys 0))
        replace S0 := up_alloc (o := .cells #[.float .f64 (xs 0), .float .f64 (ys 0)] 27) S0
        replace S1 := up_alloc (o := .cells #[.float .f64 (xs 0), .float .f64 (ys 0)] 27) S1
        replace S2 := up_alloc (o := .cells #[.float .f64 (xs 0), .float .f64 (ys 0)] 27) S2
        replace K0 := up_alloc (o := .cells #[.float .f64 (xs 0), .float .f64 (ys 0)] 27) K0
        replace K1 := up_alloc (o := .cells #[.float .f64 (xs 0), .float .f64 (ys 0)] 27) K1
        replace R0 := up_alloc (o := .cells #[.float .f64 (xs 0), .float .f64 (ys 0)] 27) R0
        replace R1 := up_alloc (o := .cells #[.float .f64 (xs 0), .float .f64 (ys 0)] 27) R1
        haveI := belBy_some (wd.alloc (.cells #[.float .f64 (xs 0), .float .f64 (ys 0)] 27))
        have y0 := belBy_cell S0
        have y1 := belBy_cell S2
        have y2 := belBy_cell K0
        have y3 := belBy_cell K1
        have y4 := belBy_cell Q0
        have y5 := belBy_cell Q1
        have m2 := True.intro
        have c1 := cmp_gt .f64
        refine wp_region_quiet_bel (by kernel_rfl) (by kernel_rfl) ?_
        repeat (go_big_quiet_step (first | (have zn := m2; clear zn; go_at_call 47; exact calls_bel (dot7 _ (by with_reducible assumption) (by with_reducible assumption) h4 h5 (by decide)))))
        refine wpQuiet_nil ?_
        rintro _ ⟨nq, rfl⟩
        replace S1 := keep nq.h S1
        replace K0 := keep nq.h K0
        replace K1 := keep nq.h K1
        replace R0 := keep nq.h R0
        replace R1 := keep nq.h R1
        replace Q0 := keep nq.h Q0
        replace Q1 := keep nq.h Q1
        clear S2
        clear S0 y0 y1 y2 y3 y4 y5
        replace Bc := bl_trans Bq nq.h
        clear Bq m2
        have lw : w.heap.size ≤ wd.heap.size := by omega
        have lr : w.heap.size ≤ w.heap.size + 1 + 1 := by omega
        have neH : wd.heap.size ≠ w.heap.size := by omega
        have neP : wd.heap.size ≠ w.heap.size + 1 := by omega
        have neR : wd.heap.size ≠ w.heap.size + 1 + 1 := by omega
        have ZQ := fun o => (Bc.2 ⟨wd.heap.size, o, none⟩).trans (fresh_frozen (by show _ ≤ _; omega))
        have G := And.intro Q0 Q1
        go_wp2_with (first | (go_at_call 51; refine (unit7 _ (wbd h4 42 (by decide)) (wbd h5 42 (by decide))).mono ?_; rintro e wu ⟨rfl, hb⟩; rw [hu]; obtain ⟨G0, G1⟩ := G; replace S1 := keep hb S1; replace R0 := keep hb R0; replace R1 := keep hb R1; replace G0 := keep hb G0; replace G1 := keep hb G1; replace S1 := up_alloc (o := .cells #[.float .f64 (unX p q), .float .f64 (unY p q)] 27) S1; replace R0 := up_alloc (o := .cells #[.float .f64 (unX p q), .float .f64 (unY p q)] 27) R0; replace R1 := up_alloc (o := .cells #[.float .f64 (unX p q), .float .f64 (unY p q)] 27) R1; replace G0 := up_alloc (o := .cells #[.float .f64 (unX p q), .float .f64 (unY p q)] 27) G0; replace G1 := up_alloc (o := .cells #[.float .f64 (unX p q), .float .f64 (unY p q)] 27) G1; replace Bc := bl_alloc (bl_trans Bc hb) #[.float .f64 (unX p q), .float .f64 (unY p q)] 27; obtain ⟨U0, U1, _⟩ := new2 wu 27 (.float .f64 (unX p q)) (.float .f64 (unY p q)); have ZR := fun o => (Bc.2 ⟨w.heap.size + 1 + 1, o, none⟩).trans (fresh_frozen (by show _ ≤ _; omega))))
        obtain ⟨F0, F1⟩ := set2 (p := .float .f64 (xs 0)) (q := .float .f64 (ys 0)) R0 R1
        refine bodyPost_ret (v := .tuple #[.agg #[.float .f64 (xs 0), .float .f64 (ys 0)], .int .i64 0]) (by simp [F0, F1, results, Try.results13, go_sem] <;> (first | exact ⟨⟨rfl, rfl⟩, rfl⟩ | exact ⟨rfl, rfl, rfl, rfl⟩ | exact ⟨rfl, rfl, rfl⟩ | exact ⟨rfl, rfl⟩ | rfl)) rfl ⟨by unfold farX farY fwK; rw [aE_in hz hw, hu]; rfl, bl_set (bl_set Bc lr) lr⟩
      · have ub := un_bd (wbd h4 42 (by decide)) (wbd h5 42 (by decide)) hu
        go_enter Try.func13, Try.ntmps13
        go_wp2_with (first | (go_at_call 40; refine (rchk7 _ _ xs ys 1 r _ h1).mono ?_; rintro e wc ⟨rfl, hb⟩; rw [hz]; have Bc := bl_trans B0 hb; have S0 := keep hb z0_0; have S1 := keep hb z0_1; have S2 := keep hb z0_2; have K0 := keep hb z1_0; have K1 := keep hb z1_1; have R0 := keep hb z2_0; have R1 := keep hb z2_1; have hbc := hb) | (go_at_call 43; refine (real7 _ _ _ op oq).mono ?_; rintro e wd ⟨rfl, hb⟩; unfold inB; rw [hw]; replace Bc := bl_trans Bc hb; replace S0 := keep hb S0; replace S1 := keep hb S1; replace S2 := keep hb S2; replace K0 := keep hb K0; replace K1 := keep hb K1; replace R0 := keep hb R0; replace R1 := keep hb R1; have hld := (bl_trans hbc hb).size; (try simp only [World.size_alloc] at hld); have x0 := keep Bc a0; have x1 := keep Bc a1; have hbb := Nat.lt_of_lt_of_le hb0 Bc.size))
        skip
        have Bq := bl_alloc Bc #[.float .f64 (xs 0), .float .f64 (ys 0)] 27
        obtain ⟨Q0, Q1, _⟩ := new2 wd 27 (.float .f64 (xs 0)) (.float .f64 (ys 0))
        replace S0 := up_alloc (o := .cells #[.float .f64 (xs 0), .float .f64 (ys 0)] 27) S0
        replace S1 := up_alloc (o := .cells #[.float .f64 (xs 0), .float .f64 (ys 0)] 27) S1
        replace S2 := up_alloc (o := .cells #[.float .f64 (xs 0), .float .f64 (ys 0)] 27) S2
        replace K0 := up_alloc (o := .cells #[.float .f64 (xs 0), .float .f64 (ys 0)] 27) K0
        replace K1 := up_alloc (o := .cells #[.float .f64 (xs 0), .float .f64 (ys 0)] 27) K1
        replace R0 := up_alloc (o := .cells #[.float .f64 (xs 0), .float .f64 (ys 0)] 27) R0
        replace R1 := up_alloc (o := .cells #[.float .f64 (xs 0), .float .f64 (ys 0)] 27) R1
        haveI := belBy_some (wd.alloc (.cells #[.float .f64 (xs 0), .float .f64 (ys 0)] 27))
        have y0 := belBy_cell S0
        have y1 := belBy_cell S2
        have y2 := belBy_cell K0
        have y3 := belBy_cell K1
        have y4 := belBy_cell Q0
        have y5 := belBy_cell Q1
        have m2 := True.intro
        have c1 := cmp_gt .f64
        refine wp_region_quiet_bel (by kernel_rfl) (by kernel_rfl) ?_
        repeat (go_big_quiet_step (first | (have zn := m2; clear zn; go_at_call 47; exact calls_bel (dot7 _ (by with_reducible assumption) (by with_reducible assumption) h4 h5 (by decide)))))
        refine wpQuiet_nil ?_
        rintro _ ⟨nq, rfl⟩
        replace S1 := keep nq.h S1
        replace K0 := keep nq.h K0
        replace K1 := keep nq.h K1
        replace R0 := keep nq.h R0
        replace R1 := keep nq.h R1
        replace Q0 := keep nq.h Q0
        replace Q1 := keep nq.h Q1
        clear S2
        clear S0 y0 y1 y2 y3 y4 y5
        replace Bc := bl_trans Bq nq.h
        clear Bq m2
        have lw : w.heap.size ≤ wd.heap.size := by omega
        have lr : w.heap.size ≤ w.heap.size + 1 + 1 := by omega
        have neH : wd.heap.size ≠ w.heap.size := by omega
        have neP : wd.heap.size ≠ w.heap.size + 1 := by omega
        have neR : wd.heap.size ≠ w.heap.size + 1 + 1 := by omega
        have ZQ := fun o => (Bc.2 ⟨wd.heap.size, o, none⟩).trans (fresh_frozen (by show _ ≤ _; omega))
        have G := And.intro Q0 Q1
        go_wp2_with (first | (go_at_call 51; refine (unit7 _ (wbd h4 42 (by decide)) (wbd h5 42 (by decide))).mono ?_; rintro e wu ⟨rfl, hb⟩; rw [hu]; obtain ⟨G0, G1⟩ := G; replace S1 := keep hb S1; replace R0 := keep hb R0; replace R1 := keep hb R1; replace G0 := keep hb G0; replace G1 := keep hb G1; replace S1 := up_alloc (o := .cells #[.float .f64 (unX p q), .float .f64 (unY p q)] 27) S1; replace R0 := up_alloc (o := .cells #[.float .f64 (unX p q), .float .f64 (unY p q)] 27) R0; replace R1 := up_alloc (o := .cells #[.float .f64 (unX p q), .float .f64 (unY p q)] 27) R1; replace G0 := up_alloc (o := .cells #[.float .f64 (unX p q), .float .f64 (unY p q)] 27) G0; replace G1 := up_alloc (o := .cells #[.float .f64 (unX p q), .float .f64 (unY p q)] 27) G1; replace Bc := bl_alloc (bl_trans Bc hb) #[.float .f64 (unX p q), .float .f64 (unY p q)] 27; obtain ⟨U0, U1, _⟩ := new2 wu 27 (.float .f64 (unX p q)) (.float .f64 (unY p q)); have ZR := fun o => (Bc.2 ⟨w.heap.size + 1 + 1, o, none⟩).trans (fresh_frozen (by show _ ≤ _; omega))) | (go_at_call 52; refine (more7 _ b1 b2 hrb ub.1 ub.2 (by decide)).mono ?_; rintro e w9 ⟨rfl, hb⟩; replace Bc := bl_trans Bc hb; replace R0 := keep hb R0; replace R1 := keep hb R1; replace G0 := keep hb G0; replace G1 := keep hb G1; clear ZR; have ZR := fun o => (Bc.2 ⟨w.heap.size + 1 + 1, o, none⟩).trans (fresh_frozen (by show _ ≤ _; omega)); have ZQ9 := fun o => (Bc.2 ⟨wd.heap.size, o, none⟩).trans (fresh_frozen (by show _ ≤ _; omega)); obtain ⟨E0, E1⟩ := set2 (p := .float .f64 (moK (xs 0) r (unX p q))) (q := .float .f64 (moK (ys 0) r (unY p q))) G0 G1; replace R0 := up_set2 (o := 1) (x := .float .f64 (moK (ys 0) r (unY p q))) neR (up_set2 (o := 0) (x := .float .f64 (moK (xs 0) r (unX p q))) neR R0); replace R1 := up_set2 (o := 1) (x := .float .f64 (moK (ys 0) r (unY p q))) neR (up_set2 (o := 0) (x := .float .f64 (moK (xs 0) r (unX p q))) neR R1); replace Bc := bl_set (p := ⟨wd.heap.size, 1, none⟩) (v := .float .f64 (moK (ys 0) r (unY p q))) (bl_set (p := ⟨wd.heap.size, 0, none⟩) (v := .float .f64 (moK (xs 0) r (unX p q))) Bc lw) lw))
        obtain ⟨F0, F1⟩ := set2 (p := .float .f64 (moK (xs 0) r (unX p q))) (q := .float .f64 (moK (ys 0) r (unY p q))) R0 R1
        refine bodyPost_ret (v := .tuple #[.agg #[.float .f64 (moK (xs 0) r (unX p q)), .float .f64 (moK (ys 0) r (unY p q))], .int .i64 0]) (by simp [F0, F1, results, Try.results13, go_sem] <;> (first | exact ⟨⟨rfl, rfl⟩, rfl⟩ | exact ⟨rfl, rfl, rfl, rfl⟩ | exact ⟨rfl, rfl, rfl⟩ | exact ⟨rfl, rfl⟩ | rfl)) rfl ⟨by unfold farX farY fwK; rw [aE_in hz hw, hu]; rfl, bl_set (bl_set Bc lr) lr⟩
    · obtain ⟨b1, b2⟩ := g 0 (by decide)
      obtain ⟨g3, g4⟩ := g 1 (by decide)
      obtain ⟨a0, a1⟩ := hsl 0 (by decide)
      obtain ⟨a2, a3⟩ := hsl 1 (by decide)
      rw [show off + 0 * 2 = off by omega] at a0 a1
      rw [show off + 1 * 2 = off + 2 by omega] at a2 a3
      have z0_0 : (w.alloc (.cells #[.int .u8 2, .float .f64 r, .slice (some ⟨b, off, none⟩) 2 c] 25)).cell? ⟨w.heap.size, 0, none⟩ = some (.int .u8 2) := by rw [World.cell?_alloc_new]; rfl
      replace z0_0 := up_alloc (o := .cells #[.float .f64 p, .float .f64 q] 27) z0_0
      replace z0_0 := up_alloc (o := .cells #[.float .f64 0, .float .f64 0] 27) z0_0
      have z0_1 : (w.alloc (.cells #[.int .u8 2, .float .f64 r, .slice (some ⟨b, off, none⟩) 2 c] 25)).cell? ⟨w.heap.size, 1, none⟩ = some (.float .f64 r) := by rw [World.cell?_alloc_new]; rfl
      replace z0_1 := up_alloc (o := .cells #[.float .f64 p, .float .f64 q] 27) z0_1
      replace z0_1 := up_alloc (o := .cells #[.float .f64 0, .float .f64 0] 27) z0_1
      have z0_2 : (w.alloc (.cells #[.int .u8 2, .float .f64 r, .slice (some ⟨b, off, none⟩) 2 c] 25)).cell? ⟨w.heap.size, 2, none⟩ = some (.slice (some ⟨b, off, none⟩) 2 c) := by rw [World.cell?_alloc_new]; rfl
      replace z0_2 := up_alloc (o := .cells #[.float .f64 p, .float .f64 q] 27) z0_2
      replace z0_2 := up_alloc (o := .cells #[.float .f64 0, .float .f64 0] 27) z0_2
      have z1_0 : ((w.alloc (.cells #[.int .u8 2, .float .f64 r, .slice (some ⟨b, off, none⟩) 2 c] 25)).alloc (.cells #[.float .f64 p, .float .f64 q] 27)).cell? ⟨w.heap.size + 1, 0, none⟩ = some (.float .f64 p) := by rw [← (show (w.alloc (.cells #[.int .u8 2, .float .f64 r, .slice (some ⟨b, off, none⟩) 2 c] 25)).heap.size = w.heap.size + 1 by simp only [World.size_alloc]), World.cell?_alloc_new]; rfl
      replace z1_0 := up_alloc (o := .cells #[.float .f64 0, .float .f64 0] 27) z1_0
      have z1_1 : ((w.alloc (.cells #[.int .u8 2, .float .f64 r, .slice (some ⟨b, off, none⟩) 2 c] 25)).alloc (.cells #[.float .f64 p, .float .f64 q] 27)).cell? ⟨w.heap.size + 1, 1, none⟩ = some (.float .f64 q) := by rw [← (show (w.alloc (.cells #[.int .u8 2, .float .f64 r, .slice (some ⟨b, off, none⟩) 2 c] 25)).heap.size = w.heap.size + 1 by simp only [World.size_alloc]), World.cell?_alloc_new]; rfl
      replace z1_1 := up_alloc (o := .cells #[.float .f64 0, .float .f64 0] 27) z1_1
      have z2_0 : (((w.alloc (.cells #[.int .u8 2, .float .f64 r, .slice (some ⟨b, off, none⟩) 2 c] 25)).alloc (.cells #[.float .f64 p, .float .f64 q] 27)).alloc (.cells #[.float .f64 0, .float .f64 0] 27)).cell? ⟨w.heap.size + 1 + 1, 0, none⟩ = some (.float .f64 0) := by rw [← (show ((w.alloc (.cells #[.int .u8 2, .float .f64 r, .slice (some ⟨b, off, none⟩) 2 c] 25)).alloc (.cells #[.float .f64 p, .float .f64 q] 27)).heap.size = w.heap.size + 1 + 1 by simp only [World.size_alloc]), World.cell?_alloc_new]; rfl
      have z2_1 : (((w.alloc (.cells #[.int .u8 2, .float .f64 r, .slice (some ⟨b, off, none⟩) 2 c] 25)).alloc (.cells #[.float .f64 p, .float .f64 q] 27)).alloc (.cells #[.float .f64 0, .float .f64 0] 27)).cell? ⟨w.heap.size + 1 + 1, 1, none⟩ = some (.float .f64 0) := by rw [← (show ((w.alloc (.cells #[.int .u8 2, .float .f64 r, .slice (some ⟨b, off, none⟩) 2 c] 25)).alloc (.cells #[.float .f64 p, .float .f64 q] 27)).heap.size = w.heap.size + 1 + 1 by simp only [World.size_alloc]), World.cell?_alloc_new]; rfl
      have B0 : Bel w (((w.alloc (.cells #[.int .u8 2, .float .f64 r, .slice (some ⟨b, off, none⟩) 2 c] 25)).alloc (.cells #[.float .f64 p, .float .f64 q] 27)).alloc (.cells #[.float .f64 0, .float .f64 0] 27)) := bl_alloc (bl_alloc (bl_alloc (bl_refl w) _ _) _ _) _ _
      have h1 := h.bel B0
      cases htp : tpB xs ys p q
      all_goals
        have htl := htp
        unfold tpB at htl
      · cases hu : unB p q
        · go_enter Try.func13, Try.ntmps13
          go_wp2_with (first | (go_at_call 40; refine (rchk7 _ _ xs ys 2 r _ h1).mono ?_; rintro e wc ⟨rfl, hb⟩; rw [hz]; have Bc := bl_trans B0 hb; have S0 := keep hb z0_0; have S1 := keep hb z0_1; have S2 := keep hb z0_2; have K0 := keep hb z1_0; have K1 := keep hb z1_1; have R0 := keep hb z2_0; have R1 := keep hb z2_1; have hbc := hb) | (go_at_call 43; refine (real7 _ _ _ op oq).mono ?_; rintro e wd ⟨rfl, hb⟩; unfold inB; rw [hw]; replace Bc := bl_trans Bc hb; replace S0 := keep hb S0; replace S1 := keep hb S1; replace S2 := keep hb S2; replace K0 := keep hb K0; replace K1 := keep hb K1; replace R0 := keep hb R0; replace R1 := keep hb R1; have hld := (bl_trans hbc hb).size; (try simp only [World.size_alloc] at hld); have x0 := keep Bc a0; have x1 := keep Bc a1; have hbb := Nat.lt_of_lt_of_le hb0 Bc.size))
          have x2 := keep Bc a2
          have x3 := keep Bc a3
          have Bq := bl_alloc Bc #[.float .f64 (xs 0), .float .f64 (ys 0)] 27
          obtain ⟨Q0, Q1, _⟩ := new2 wd 27 (.float .f64 (xs 0)) (.float .f64 (ys 0))
          replace S0 := up_alloc (o := .cells #[.float .f64 (xs 0), .float .f64 (ys 0)] 27) S0
          replace S1 := up_alloc (o := .cells #[.float .f64 (xs 0), .float .f64 (ys 0)] 27) S1
          replace S2 := up_alloc (o := .cells #[.float .f64 (xs 0), .float .f64 (ys 0)] 27) S2
          replace K0 := up_alloc (o := .cells #[.float .f64 (xs 0), .float .f64 (ys 0)] 27) K0
          replace K1 := up_alloc (o := .cells #[.float .f64 (xs 0), .float .f64 (ys 0)] 27) K1
          replace R0 := up_alloc (o := .cells #[.float .f64 (xs 0), .float .f64 (ys 0)] 27) R0
          replace R1 := up_alloc (o := .cells #[.float .f64 (xs 0), .float .f64 (ys 0)] 27) R1
          replace x2 := up_alloc (o := .cells #[.float .f64 (xs 0), .float .f64 (ys 0)] 27) x2
          replace x3 := up_alloc (o := .cells #[.float .f64 (xs 0), .float .f64 (ys 0)] 27) x3
          haveI := belBy_some (wd.alloc (.cells #[.float .f64 (xs 0), .float .f64 (ys 0)] 27))
          have y0 := belBy_cell S0
          have y1 := belBy_cell S2
          have y2 := belBy_cell K0
          have y3 := belBy_cell K1
          have y4 := belBy_cell Q0
          have y5 := belBy_cell Q1
          have y6 := belBy_cell x2
          have y7 := belBy_cell x3
          have m2 := True.intro
          have c1 := cmp_gt .f64
          refine wp_region_quiet_bel (by kernel_rfl) (by kernel_rfl) ?_
          repeat (go_big_quiet_step (first | (have zn := m2; clear zn; go_at_call 47; exact calls_bel (dot7 _ (by with_reducible assumption) (by with_reducible assumption) h4 h5 (by decide)))))
          refine wpQuiet_nil ?_
          rintro _ ⟨nq, rfl⟩
          replace S1 := keep nq.h S1
          replace K0 := keep nq.h K0
          replace K1 := keep nq.h K1
          replace R0 := keep nq.h R0
          replace R1 := keep nq.h R1
          replace Q0 := keep nq.h Q0
          replace Q1 := keep nq.h Q1
          clear S2
          clear S0 y0 y1 y2 y3 y4 y5
          replace Bc := bl_trans Bq nq.h
          clear Bq m2
          have lw : w.heap.size ≤ wd.heap.size := by omega
          have lr : w.heap.size ≤ w.heap.size + 1 + 1 := by omega
          have neH : wd.heap.size ≠ w.heap.size := by omega
          have neP : wd.heap.size ≠ w.heap.size + 1 := by omega
          have neR : wd.heap.size ≠ w.heap.size + 1 + 1 := by omega
          have ZQ := fun o => (Bc.2 ⟨wd.heap.size, o, none⟩).trans (fresh_frozen (by show _ ≤ _; omega))
          have G := And.intro Q0 Q1
          go_wp2_with (first | (go_at_call 51; refine (unit7 _ (wbd h4 42 (by decide)) (wbd h5 42 (by decide))).mono ?_; rintro e wu ⟨rfl, hb⟩; rw [hu]; obtain ⟨G0, G1⟩ := G; replace S1 := keep hb S1; replace R0 := keep hb R0; replace R1 := keep hb R1; replace G0 := keep hb G0; replace G1 := keep hb G1; replace S1 := up_alloc (o := .cells #[.float .f64 (unX p q), .float .f64 (unY p q)] 27) S1; replace R0 := up_alloc (o := .cells #[.float .f64 (unX p q), .float .f64 (unY p q)] 27) R0; replace R1 := up_alloc (o := .cells #[.float .f64 (unX p q), .float .f64 (unY p q)] 27) R1; replace G0 := up_alloc (o := .cells #[.float .f64 (unX p q), .float .f64 (unY p q)] 27) G0; replace G1 := up_alloc (o := .cells #[.float .f64 (unX p q), .float .f64 (unY p q)] 27) G1; replace Bc := bl_alloc (bl_trans Bc hb) #[.float .f64 (unX p q), .float .f64 (unY p q)] 27; obtain ⟨U0, U1, _⟩ := new2 wu 27 (.float .f64 (unX p q)) (.float .f64 (unY p q)); have ZR := fun o => (Bc.2 ⟨w.heap.size + 1 + 1, o, none⟩).trans (fresh_frozen (by show _ ≤ _; omega))))
          obtain ⟨F0, F1⟩ := set2 (p := .float .f64 (xs 0)) (q := .float .f64 (ys 0)) R0 R1
          refine bodyPost_ret (v := .tuple #[.agg #[.float .f64 (xs 0), .float .f64 (ys 0)], .int .i64 0]) (by simp [F0, F1, results, Try.results13, go_sem] <;> (first | exact ⟨⟨rfl, rfl⟩, rfl⟩ | exact ⟨rfl, rfl, rfl, rfl⟩ | exact ⟨rfl, rfl, rfl⟩ | exact ⟨rfl, rfl⟩ | rfl)) rfl ⟨by unfold farX farY fwK tpX tpY; rw [aE_in hz hw, hu, htp]; rfl, bl_set (bl_set Bc lr) lr⟩
        · have ub := un_bd (wbd h4 42 (by decide)) (wbd h5 42 (by decide)) hu
          go_enter Try.func13, Try.ntmps13
          go_wp2_with (first | (go_at_call 40; refine (rchk7 _ _ xs ys 2 r _ h1).mono ?_; rintro e wc ⟨rfl, hb⟩; rw [hz]; have Bc := bl_trans B0 hb; have S0 := keep hb z0_0; have S1 := keep hb z0_1; have S2 := keep hb z0_2; have K0 := keep hb z1_0; have K1 := keep hb z1_1; have R0 := keep hb z2_0; have R1 := keep hb z2_1; have hbc := hb) | (go_at_call 43; refine (real7 _ _ _ op oq).mono ?_; rintro e wd ⟨rfl, hb⟩; unfold inB; rw [hw]; replace Bc := bl_trans Bc hb; replace S0 := keep hb S0; replace S1 := keep hb S1; replace S2 := keep hb S2; replace K0 := keep hb K0; replace K1 := keep hb K1; replace R0 := keep hb R0; replace R1 := keep hb R1; have hld := (bl_trans hbc hb).size; (try simp only [World.size_alloc] at hld); have x0 := keep Bc a0; have x1 := keep Bc a1; have hbb := Nat.lt_of_lt_of_le hb0 Bc.size))
          have x2 := keep Bc a2
          have x3 := keep Bc a3
          have Bq := bl_alloc Bc #[.float .f64 (xs 0), .float .f64 (ys 0)] 27
          obtain ⟨Q0, Q1, _⟩ := new2 wd 27 (.float .f64 (xs 0)) (.float .f64 (ys 0))
          replace S0 := up_alloc (o := .cells #[.float .f64 (xs 0), .float .f64 (ys 0)] 27) S0
          replace S1 := up_alloc (o := .cells #[.float .f64 (xs 0), .float .f64 (ys 0)] 27) S1
          replace S2 := up_alloc (o := .cells #[.float .f64 (xs 0), .float .f64 (ys 0)] 27) S2
          replace K0 := up_alloc (o := .cells #[.float .f64 (xs 0), .float .f64 (ys 0)] 27) K0
          replace K1 := up_alloc (o := .cells #[.float .f64 (xs 0), .float .f64 (ys 0)] 27) K1
          replace R0 := up_alloc (o := .cells #[.float .f64 (xs 0), .float .f64 (ys 0)] 27) R0
          replace R1 := up_alloc (o := .cells #[.float .f64 (xs 0), .float .f64 (ys 0)] 27) R1
          replace x2 := up_alloc (o := .cells #[.float .f64 (xs 0), .float .f64 (ys 0)] 27) x2
          replace x3 := up_alloc (o := .cells #[.float .f64 (xs 0), .float .f64 (ys 0)] 27) x3
          haveI := belBy_some (wd.alloc (.cells #[.float .f64 (xs 0), .float .f64 (ys 0)] 27))
          have y0 := belBy_cell S0
          have y1 := belBy_cell S2
          have y2 := belBy_cell K0
          have y3 := belBy_cell K1
          have y4 := belBy_cell Q0
          have y5 := belBy_cell Q1
          have y6 := belBy_cell x2
          have y7 := belBy_cell x3
          have m2 := True.intro
          have c1 := cmp_gt .f64
          refine wp_region_quiet_bel (by kernel_rfl) (by kernel_rfl) ?_
          repeat (go_big_quiet_step (first | (have zn := m2; clear zn; go_at_call 47; exact calls_bel (dot7 _ (by with_reducible assumption) (by with_reducible assumption) h4 h5 (by decide)))))
          refine wpQuiet_nil ?_
          rintro _ ⟨nq, rfl⟩
          replace S1 := keep nq.h S1
          replace K0 := keep nq.h K0
          replace K1 := keep nq.h K1
          replace R0 := keep nq.h R0
          replace R1 := keep nq.h R1
          replace Q0 := keep nq.h Q0
          replace Q1 := keep nq.h Q1
          clear S2
          clear S0 y0 y1 y2 y3 y4 y5
          replace Bc := bl_trans Bq nq.h
          clear Bq m2
          have lw : w.heap.size ≤ wd.heap.size := by omega
          have lr : w.heap.size ≤ w.heap.size + 1 + 1 := by omega
          have neH : wd.heap.size ≠ w.heap.size := by omega
          have neP : wd.heap.size ≠ w.heap.size + 1 := by omega
          have neR : wd.heap.size ≠ w.heap.size + 1 + 1 := by omega
          have ZQ := fun o => (Bc.2 ⟨wd.heap.size, o, none⟩).trans (fresh_frozen (by show _ ≤ _; omega))
          have G := And.intro Q0 Q1
          go_wp2_with (first | (go_at_call 51; refine (unit7 _ (wbd h4 42 (by decide)) (wbd h5 42 (by decide))).mono ?_; rintro e wu ⟨rfl, hb⟩; rw [hu]; obtain ⟨G0, G1⟩ := G; replace S1 := keep hb S1; replace R0 := keep hb R0; replace R1 := keep hb R1; replace G0 := keep hb G0; replace G1 := keep hb G1; replace S1 := up_alloc (o := .cells #[.float .f64 (unX p q), .float .f64 (unY p q)] 27) S1; replace R0 := up_alloc (o := .cells #[.float .f64 (unX p q), .float .f64 (unY p q)] 27) R0; replace R1 := up_alloc (o := .cells #[.float .f64 (unX p q), .float .f64 (unY p q)] 27) R1; replace G0 := up_alloc (o := .cells #[.float .f64 (unX p q), .float .f64 (unY p q)] 27) G0; replace G1 := up_alloc (o := .cells #[.float .f64 (unX p q), .float .f64 (unY p q)] 27) G1; replace Bc := bl_alloc (bl_trans Bc hb) #[.float .f64 (unX p q), .float .f64 (unY p q)] 27; obtain ⟨U0, U1, _⟩ := new2 wu 27 (.float .f64 (unX p q)) (.float .f64 (unY p q)); have ZR := fun o => (Bc.2 ⟨w.heap.size + 1 + 1, o, none⟩).trans (fresh_frozen (by show _ ≤ _; omega))) | (go_at_call 52; refine (more7 _ b1 b2 hrb ub.1 ub.2 (by decide)).mono ?_; rintro e w9 ⟨rfl, hb⟩; replace Bc := bl_trans Bc hb; replace R0 := keep hb R0; replace R1 := keep hb R1; replace G0 := keep hb G0; replace G1 := keep hb G1; clear ZR; have ZR := fun o => (Bc.2 ⟨w.heap.size + 1 + 1, o, none⟩).trans (fresh_frozen (by show _ ≤ _; omega)); have ZQ9 := fun o => (Bc.2 ⟨wd.heap.size, o, none⟩).trans (fresh_frozen (by show _ ≤ _; omega)); obtain ⟨E0, E1⟩ := set2 (p := .float .f64 (moK (xs 0) r (unX p q))) (q := .float .f64 (moK (ys 0) r (unY p q))) G0 G1; replace R0 := up_set2 (o := 1) (x := .float .f64 (moK (ys 0) r (unY p q))) neR (up_set2 (o := 0) (x := .float .f64 (moK (xs 0) r (unX p q))) neR R0); replace R1 := up_set2 (o := 1) (x := .float .f64 (moK (ys 0) r (unY p q))) neR (up_set2 (o := 0) (x := .float .f64 (moK (xs 0) r (unX p q))) neR R1); replace Bc := bl_set (p := ⟨wd.heap.size, 1, none⟩) (v := .float .f64 (moK (ys 0) r (unY p q))) (bl_set (p := ⟨wd.heap.size, 0, none⟩) (v := .float .f64 (moK (xs 0) r (unX p q))) Bc lw) lw))
          obtain ⟨F0, F1⟩ := set2 (p := .float .f64 (moK (xs 0) r (unX p q))) (q := .float .f64 (moK (ys 0) r (unY p q))) R0 R1
          refine bodyPost_ret (v := .tuple #[.agg #[.float .f64 (moK (xs 0) r (unX p q)), .float .f64 (moK (ys 0) r (unY p q))], .int .i64 0]) (by simp [F0, F1, results, Try.results13, go_sem] <;> (first | exact ⟨⟨rfl, rfl⟩, rfl⟩ | exact ⟨rfl, rfl, rfl, rfl⟩ | exact ⟨rfl, rfl, rfl⟩ | exact ⟨rfl, rfl⟩ | rfl)) rfl ⟨by unfold farX farY fwK tpX tpY; rw [aE_in hz hw, hu, htp]; rfl, bl_set (bl_set Bc lr) lr⟩
      · cases hu : unB p q
        · go_enter Try.func13, Try.ntmps13
          go_wp2_with (first | (go_at_call 40; refine (rchk7 _ _ xs ys 2 r _ h1).mono ?_; rintro e wc ⟨rfl, hb⟩; rw [hz]; have Bc := bl_trans B0 hb; have S0 := keep hb z0_0; have S1 := keep hb z0_1; have S2 := keep hb z0_2; have K0 := keep hb z1_0; have K1 := keep hb z1_1; have R0 := keep hb z2_0; have R1 := keep hb z2_1; have hbc := hb) | (go_at_call 43; refine (real7 _ _ _ op oq).mono ?_; rintro e wd ⟨rfl, hb⟩; unfold inB; rw [hw]; replace Bc := bl_trans Bc hb; replace S0 := keep hb S0; replace S1 := keep hb S1; replace S2 := keep hb S2; replace K0 := keep hb K0; replace K1 := keep hb K1; replace R0 := keep hb R0; replace R1 := keep hb R1; have hld := (bl_trans hbc hb).size; (try simp only [World.size_alloc] at hld); have x0 := keep Bc a0; have x1 := keep Bc a1; have hbb := Nat.lt_of_lt_of_le hb0 Bc.size))
          have x2 := keep Bc a2
          have x3 := keep Bc a3
          have Bq := bl_alloc Bc #[.float .f64 (xs 0), .float .f64 (ys 0)] 27
          obtain ⟨Q0, Q1, _⟩ := new2 wd 27 (.float .f64 (xs 0)) (.float .f64 (ys 0))
          replace S0 := up_alloc (o := .cells #[.float .f64 (xs 0), .float .f64 (ys 0)] 27) S0
          replace S1 := up_alloc (o := .cells #[.float .f64 (xs 0), .float .f64 (ys 0)] 27) S1
          replace S2 := up_alloc (o := .cells #[.float .f64 (xs 0), .float .f64 (ys 0)] 27) S2
          replace K0 := up_alloc (o := .cells #[.float .f64 (xs 0), .float .f64 (ys 0)] 27) K0
          replace K1 := up_alloc (o := .cells #[.float .f64 (xs 0), .float .f64 (ys 0)] 27) K1
          replace R0 := up_alloc (o := .cells #[.float .f64 (xs 0), .float .f64 (ys 0)] 27) R0
          replace R1 := up_alloc (o := .cells #[.float .f64 (xs 0), .float .f64 (ys 0)] 27) R1
          replace x2 := up_alloc (o := .cells #[.float .f64 (xs 0), .float .f64 (ys 0)] 27) x2
          replace x3 := up_alloc (o := .cells #[.float .f64 (xs 0), .float .f64 (ys 0)] 27) x3
          haveI := belBy_some (wd.alloc (.cells #[.float .f64 (xs 0), .float .f64 (ys 0)] 27))
          have y0 := belBy_cell S0
          have y1 := belBy_cell S2
          have y2 := belBy_cell K0
          have y3 := belBy_cell K1
          have y4 := belBy_cell Q0
          have y5 := belBy_cell Q1
          have y6 := belBy_cell x2
          have y7 := belBy_cell x3
          have m2 := True.intro
          have c1 := cmp_gt .f64
          refine wp_region_quiet_bel (by kernel_rfl) (by kernel_rfl) ?_
          repeat (go_big_quiet_step (first | (have zn := m2; clear zn; go_at_call 47; exact calls_bel (dot7 _ (by with_reducible assumption) (by with_reducible assumption) h4 h5 (by decide)))))
          refine wpQuiet_nil ?_
          rintro _ ⟨nq, rfl⟩
          replace S1 := keep nq.h S1
          replace K0 := keep nq.h K0
          replace K1 := keep nq.h K1
          replace R0 := keep nq.h R0
          replace R1 := keep nq.h R1
          replace Q0 := keep nq.h Q0
          replace Q1 := keep nq.h Q1
          replace S2 := keep nq.h S2
          replace x2 := keep nq.h x2
          replace x3 := keep nq.h x3
          have hbq : b < nq.world.heap.size := World.block_lt_of_cell? _ _ x2
          clear S0 y0 y1 y2 y3 y4 y5
          replace Bc := bl_trans Bq nq.h
          clear Bq m2
          have lw : w.heap.size ≤ wd.heap.size := by omega
          have lr : w.heap.size ≤ w.heap.size + 1 + 1 := by omega
          have neH : wd.heap.size ≠ w.heap.size := by omega
          have neP : wd.heap.size ≠ w.heap.size + 1 := by omega
          have neR : wd.heap.size ≠ w.heap.size + 1 + 1 := by omega
          have ZQ := fun o => (Bc.2 ⟨wd.heap.size, o, none⟩).trans (fresh_frozen (by show _ ≤ _; omega))
          have G := set2 (p := .float .f64 (xs 1)) (q := .float .f64 (ys 1)) Q0 Q1
          replace K0 := up_set2 (o := 1) (x := .float .f64 (ys 1)) neP (up_set2 (o := 0) (x := .float .f64 (xs 1)) neP K0)
          replace K1 := up_set2 (o := 1) (x := .float .f64 (ys 1)) neP (up_set2 (o := 0) (x := .float .f64 (xs 1)) neP K1)
          replace S1 := up_set2 (o := 1) (x := .float .f64 (ys 1)) neH (up_set2 (o := 0) (x := .float .f64 (xs 1)) neH S1)
          replace R0 := up_set2 (o := 1) (x := .float .f64 (ys 1)) neR (up_set2 (o := 0) (x := .float .f64 (xs 1)) neR R0)
          replace R1 := up_set2 (o := 1) (x := .float .f64 (ys 1)) neR (up_set2 (o := 0) (x := .float .f64 (xs 1)) neR R1)
          replace Bc := bl_set (p := ⟨wd.heap.size, 1, none⟩) (v := .float .f64 (ys 1)) (bl_set (p := ⟨wd.heap.size, 0, none⟩) (v := .float .f64 (xs 1)) Bc lw) lw
          go_wp2_with (first | (go_at_call 51; refine (unit7 _ (wbd h4 42 (by decide)) (wbd h5 42 (by decide))).mono ?_; rintro e wu ⟨rfl, hb⟩; rw [hu]; obtain ⟨G0, G1⟩ := G; replace S1 := keep hb S1; replace R0 := keep hb R0; replace R1 := keep hb R1; replace G0 := keep hb G0; replace G1 := keep hb G1; replace S1 := up_alloc (o := .cells #[.float .f64 (unX p q), .float .f64 (unY p q)] 27) S1; replace R0 := up_alloc (o := .cells #[.float .f64 (unX p q), .float .f64 (unY p q)] 27) R0; replace R1 := up_alloc (o := .cells #[.float .f64 (unX p q), .float .f64 (unY p q)] 27) R1; replace G0 := up_alloc (o := .cells #[.float .f64 (unX p q), .float .f64 (unY p q)] 27) G0; replace G1 := up_alloc (o := .cells #[.float .f64 (unX p q), .float .f64 (unY p q)] 27) G1; replace Bc := bl_alloc (bl_trans Bc hb) #[.float .f64 (unX p q), .float .f64 (unY p q)] 27; obtain ⟨U0, U1, _⟩ := new2 wu 27 (.float .f64 (unX p q)) (.float .f64 (unY p q)); have ZR := fun o => (Bc.2 ⟨w.heap.size + 1 + 1, o, none⟩).trans (fresh_frozen (by show _ ≤ _; omega))))
          obtain ⟨F0, F1⟩ := set2 (p := .float .f64 (xs 1)) (q := .float .f64 (ys 1)) R0 R1
          refine bodyPost_ret (v := .tuple #[.agg #[.float .f64 (xs 1), .float .f64 (ys 1)], .int .i64 0]) (by simp [F0, F1, results, Try.results13, go_sem] <;> (first | exact ⟨⟨rfl, rfl⟩, rfl⟩ | exact ⟨rfl, rfl, rfl, rfl⟩ | exact ⟨rfl, rfl, rfl⟩ | exact ⟨rfl, rfl⟩ | rfl)) rfl ⟨by unfold farX farY fwK tpX tpY; rw [aE_in hz hw, hu, htp]; rfl, bl_set (bl_set Bc lr) lr⟩
        · have ub := un_bd (wbd h4 42 (by decide)) (wbd h5 42 (by decide)) hu
          go_enter Try.func13, Try.ntmps13
          go_wp2_with (first | (go_at_call 40; refine (rchk7 _ _ xs ys 2 r _ h1).mono ?_; rintro e wc ⟨rfl, hb⟩; rw [hz]; have Bc := bl_trans B0 hb; have S0 := keep hb z0_0; have S1 := keep hb z0_1; have S2 := keep hb z0_2; have K0 := keep hb z1_0; have K1 := keep hb z1_1; have R0 := keep hb z2_0; have R1 := keep hb z2_1; have hbc := hb) | (go_at_call 43; refine (real7 _ _ _ op oq).mono ?_; rintro e wd ⟨rfl, hb⟩; unfold inB; rw [hw]; replace Bc := bl_trans Bc hb; replace S0 := keep hb S0; replace S1 := keep hb S1; replace S2 := keep hb S2; replace K0 := keep hb K0; replace K1 := keep hb K1; replace R0 := keep hb R0; replace R1 := keep hb R1; have hld := (bl_trans hbc hb).size; (try simp only [World.size_alloc] at hld); have x0 := keep Bc a0; have x1 := keep Bc a1; have hbb := Nat.lt_of_lt_of_le hb0 Bc.size))
          have x2 := keep Bc a2
          have x3 := keep Bc a3
          have Bq := bl_alloc Bc #[.float .f64 (xs 0), .float .f64 (ys 0)] 27
          obtain ⟨Q0, Q1, _⟩ := new2 wd 27 (.float .f64 (xs 0)) (.float .f64 (ys 0))
          replace S0 := up_alloc (o := .cells #[.float .f64 (xs 0), .float .f64 (ys 0)] 27) S0
          replace S1 := up_alloc (o := .cells #[.float .f64 (xs 0), .float .f64 (ys 0)] 27) S1
          replace S2 := up_alloc (o := .cells #[.float .f64 (xs 0), .float .f64 (ys 0)] 27) S2
          replace K0 := up_alloc (o := .cells #[.float .f64 (xs 0), .float .f64 (ys 0)] 27) K0
          replace K1 := up_alloc (o := .cells #[.float .f64 (xs 0), .float .f64 (ys 0)] 27) K1
          replace R0 := up_alloc (o := .cells #[.float .f64 (xs 0), .float .f64 (ys 0)] 27) R0
          replace R1 := up_alloc (o := .cells #[.float .f64 (xs 0), .float .f64 (ys 0)] 27) R1
          replace x2 := up_alloc (o := .cells #[.float .f64 (xs 0), .float .f64 (ys 0)] 27) x2
          replace x3 := up_alloc (o := .cells #[.float .f64 (xs 0), .float .f64 (ys 0)] 27) x3
          haveI := belBy_some (wd.alloc (.cells #[.float .f64 (xs 0), .float .f64 (ys 0)] 27))
          have y0 := belBy_cell S0
          have y1 := belBy_cell S2
          have y2 := belBy_cell K0
          have y3 := belBy_cell K1
          have y4 := belBy_cell Q0
          have y5 := belBy_cell Q1
          have y6 := belBy_cell x2
          have y7 := belBy_cell x3
          have m2 := True.intro
          have c1 := cmp_gt .f64
          refine wp_region_quiet_bel (by kernel_rfl) (by kernel_rfl) ?_
          repeat (go_big_quiet_step (first | (have zn := m2; clear zn; go_at_call 47; exact calls_bel (dot7 _ (by with_reducible assumption) (by with_reducible assumption) h4 h5 (by decide)))))
          refine wpQuiet_nil ?_
          rintro _ ⟨nq, rfl⟩
          replace S1 := keep nq.h S1
          replace K0 := keep nq.h K0
          replace K1 := keep nq.h K1
          replace R0 := keep nq.h R0
          replace R1 := keep nq.h R1
          replace Q0 := keep nq.h Q0
          replace Q1 := keep nq.h Q1
          replace S2 := keep nq.h S2
          replace x2 := keep nq.h x2
          replace x3 := keep nq.h x3
          have hbq : b < nq.world.heap.size := World.block_lt_of_cell? _ _ x2
          clear S0 y0 y1 y2 y3 y4 y5
          replace Bc := bl_trans Bq nq.h
          clear Bq m2
          have lw : w.heap.size ≤ wd.heap.size := by omega
          have lr : w.heap.size ≤ w.heap.size + 1 + 1 := by omega
          have neH : wd.heap.size ≠ w.heap.size := by omega
          have neP : wd.heap.size ≠ w.heap.size + 1 := by omega
          have neR : wd.heap.size ≠ w.heap.size + 1 + 1 := by omega
          have ZQ := fun o => (Bc.2 ⟨wd.heap.size, o, none⟩).trans (fresh_frozen (by show _ ≤ _; omega))
          have G := set2 (p := .float .f64 (xs 1)) (q := .float .f64 (ys 1)) Q0 Q1
          replace K0 := up_set2 (o := 1) (x := .float .f64 (ys 1)) neP (up_set2 (o := 0) (x := .float .f64 (xs 1)) neP K0)
          replace K1 := up_set2 (o := 1) (x := .float .f64 (ys 1)) neP (up_set2 (o := 0) (x := .float .f64 (xs 1)) neP K1)
          replace S1 := up_set2 (o := 1) (x := .float .f64 (ys 1)) neH (up_set2 (o := 0) (x := .float .f64 (xs 1)) neH S1)
          replace R0 := up_set2 (o := 1) (x := .float .f64 (ys 1)) neR (up_set2 (o := 0) (x := .float .f64 (xs 1)) neR R0)
          replace R1 := up_set2 (o := 1) (x := .float .f64 (ys 1)) neR (up_set2 (o := 0) (x := .float .f64 (xs 1)) neR R1)
          replace Bc := bl_set (p := ⟨wd.heap.size, 1, none⟩) (v := .float .f64 (ys 1)) (bl_set (p := ⟨wd.heap.size, 0, none⟩) (v := .float .f64 (xs 1)) Bc lw) lw
          go_wp2_with (first | (go_at_call 51; refine (unit7 _ (wbd h4 42 (by decide)) (wbd h5 42 (by decide))).mono ?_; rintro e wu ⟨rfl, hb⟩; rw [hu]; obtain ⟨G0, G1⟩ := G; replace S1 := keep hb S1; replace R0 := keep hb R0; replace R1 := keep hb R1; replace G0 := keep hb G0; replace G1 := keep hb G1; replace S1 := up_alloc (o := .cells #[.float .f64 (unX p q), .float .f64 (unY p q)] 27) S1; replace R0 := up_alloc (o := .cells #[.float .f64 (unX p q), .float .f64 (unY p q)] 27) R0; replace R1 := up_alloc (o := .cells #[.float .f64 (unX p q), .float .f64 (unY p q)] 27) R1; replace G0 := up_alloc (o := .cells #[.float .f64 (unX p q), .float .f64 (unY p q)] 27) G0; replace G1 := up_alloc (o := .cells #[.float .f64 (unX p q), .float .f64 (unY p q)] 27) G1; replace Bc := bl_alloc (bl_trans Bc hb) #[.float .f64 (unX p q), .float .f64 (unY p q)] 27; obtain ⟨U0, U1, _⟩ := new2 wu 27 (.float .f64 (unX p q)) (.float .f64 (unY p q)); have ZR := fun o => (Bc.2 ⟨w.heap.size + 1 + 1, o, none⟩).trans (fresh_frozen (by show _ ≤ _; omega))) | (go_at_call 52; refine (more7 _ g3 g4 hrb ub.1 ub.2 (by decide)).mono ?_; rintro e w9 ⟨rfl, hb⟩; replace Bc := bl_trans Bc hb; replace R0 := keep hb R0; replace R1 := keep hb R1; replace G0 := keep hb G0; replace G1 := keep hb G1; clear ZR; have ZR := fun o => (Bc.2 ⟨w.heap.size + 1 + 1, o, none⟩).trans (fresh_frozen (by show _ ≤ _; omega)); have ZQ9 := fun o => (Bc.2 ⟨wd.heap.size, o, none⟩).trans (fresh_frozen (by show _ ≤ _; omega)); obtain ⟨E0, E1⟩ := set2 (p := .float .f64 (moK (xs 1) r (unX p q))) (q := .float .f64 (moK (ys 1) r (unY p q))) G0 G1; replace R0 := up_set2 (o := 1) (x := .float .f64 (moK (ys 1) r (unY p q))) neR (up_set2 (o := 0) (x := .float .f64 (moK (xs 1) r (unX p q))) neR R0); replace R1 := up_set2 (o := 1) (x := .float .f64 (moK (ys 1) r (unY p q))) neR (up_set2 (o := 0) (x := .float .f64 (moK (xs 1) r (unX p q))) neR R1); replace Bc := bl_set (p := ⟨wd.heap.size, 1, none⟩) (v := .float .f64 (moK (ys 1) r (unY p q))) (bl_set (p := ⟨wd.heap.size, 0, none⟩) (v := .float .f64 (moK (xs 1) r (unX p q))) Bc lw) lw))
          obtain ⟨F0, F1⟩ := set2 (p := .float .f64 (moK (xs 1) r (unX p q))) (q := .float .f64 (moK (ys 1) r (unY p q))) R0 R1
          refine bodyPost_ret (v := .tuple #[.agg #[.float .f64 (moK (xs 1) r (unX p q)), .float .f64 (moK (ys 1) r (unY p q))], .int .i64 0]) (by simp [F0, F1, results, Try.results13, go_sem] <;> (first | exact ⟨⟨rfl, rfl⟩, rfl⟩ | exact ⟨rfl, rfl, rfl, rfl⟩ | exact ⟨rfl, rfl, rfl⟩ | exact ⟨rfl, rfl⟩ | rfl)) rfl ⟨by unfold farX farY fwK tpX tpY; rw [aE_in hz hw, hu, htp]; rfl, bl_set (bl_set Bc lr) lr⟩
    · have hwz := with_in hch hw
      have hf : farV xs ys n p q = (farK xs ys p q (n - 1) : Int) := by unfold farV; rw [if_pos hwz]
      have fle := far_le xs ys p q (n - 1)
      have ex : farX 3 r xs ys n p q = xs (farK xs ys p q (n - 1)) ∧ farY 3 r xs ys n p q = ys (farK xs ys p q (n - 1)) := by unfold farX farY; rw [aE_in hz hw]; exact ⟨rfl, rfl⟩
      obtain ⟨fi, hfi⟩ : ∃ fi, farK xs ys p q (n - 1) = fi := ⟨_, rfl⟩
      rw [hfi] at hf fle ex
      rw [ex.1, ex.2, aE_in hz hw]
      have k1 : (fi : Int) < (n : Int) := by omega
      obtain ⟨a0, a1⟩ := hsl fi (by omega)
      have z0_0 : (w.alloc (.cells #[.int .u8 3, .float .f64 r, .slice (some ⟨b, off, none⟩) n c] 25)).cell? ⟨w.heap.size, 0, none⟩ = some (.int .u8 3) := by rw [World.cell?_alloc_new]; rfl
      replace z0_0 := up_alloc (o := .cells #[.float .f64 p, .float .f64 q] 27) z0_0
      replace z0_0 := up_alloc (o := .cells #[.float .f64 0, .float .f64 0] 27) z0_0
      have z0_1 : (w.alloc (.cells #[.int .u8 3, .float .f64 r, .slice (some ⟨b, off, none⟩) n c] 25)).cell? ⟨w.heap.size, 1, none⟩ = some (.float .f64 r) := by rw [World.cell?_alloc_new]; rfl
      replace z0_1 := up_alloc (o := .cells #[.float .f64 p, .float .f64 q] 27) z0_1
      replace z0_1 := up_alloc (o := .cells #[.float .f64 0, .float .f64 0] 27) z0_1
      have z0_2 : (w.alloc (.cells #[.int .u8 3, .float .f64 r, .slice (some ⟨b, off, none⟩) n c] 25)).cell? ⟨w.heap.size, 2, none⟩ = some (.slice (some ⟨b, off, none⟩) n c) := by rw [World.cell?_alloc_new]; rfl
      replace z0_2 := up_alloc (o := .cells #[.float .f64 p, .float .f64 q] 27) z0_2
      replace z0_2 := up_alloc (o := .cells #[.float .f64 0, .float .f64 0] 27) z0_2
      have z1_0 : ((w.alloc (.cells #[.int .u8 3, .float .f64 r, .slice (some ⟨b, off, none⟩) n c] 25)).alloc (.cells #[.float .f64 p, .float .f64 q] 27)).cell? ⟨w.heap.size + 1, 0, none⟩ = some (.float .f64 p) := by rw [← (show (w.alloc (.cells #[.int .u8 3, .float .f64 r, .slice (some ⟨b, off, none⟩) n c] 25)).heap.size = w.heap.size + 1 by simp only [World.size_alloc]), World.cell?_alloc_new]; rfl
      replace z1_0 := up_alloc (o := .cells #[.float .f64 0, .float .f64 0] 27) z1_0
      have z1_1 : ((w.alloc (.cells #[.int .u8 3, .float .f64 r, .slice (some ⟨b, off, none⟩) n c] 25)).alloc (.cells #[.float .f64 p, .float .f64 q] 27)).cell? ⟨w.heap.size + 1, 1, none⟩ = some (.float .f64 q) := by rw [← (show (w.alloc (.cells #[.int .u8 3, .float .f64 r, .slice (some ⟨b, off, none⟩) n c] 25)).heap.size = w.heap.size + 1 by simp only [World.size_alloc]), World.cell?_alloc_new]; rfl
      replace z1_1 := up_alloc (o := .cells #[.float .f64 0, .float .f64 0] 27) z1_1
      have z2_0 : (((w.alloc (.cells #[.int .u8 3, .float .f64 r, .slice (some ⟨b, off, none⟩) n c] 25)).alloc (.cells #[.float .f64 p, .float .f64 q] 27)).alloc (.cells #[.float .f64 0, .float .f64 0] 27)).cell? ⟨w.heap.size + 1 + 1, 0, none⟩ = some (.float .f64 0) := by rw [← (show ((w.alloc (.cells #[.int .u8 3, .float .f64 r, .slice (some ⟨b, off, none⟩) n c] 25)).alloc (.cells #[.float .f64 p, .float .f64 q] 27)).heap.size = w.heap.size + 1 + 1 by simp only [World.size_alloc]), World.cell?_alloc_new]; rfl
      have z2_1 : (((w.alloc (.cells #[.int .u8 3, .float .f64 r, .slice (some ⟨b, off, none⟩) n c] 25)).alloc (.cells #[.float .f64 p, .float .f64 q] 27)).alloc (.cells #[.float .f64 0, .float .f64 0] 27)).cell? ⟨w.heap.size + 1 + 1, 1, none⟩ = some (.float .f64 0) := by rw [← (show ((w.alloc (.cells #[.int .u8 3, .float .f64 r, .slice (some ⟨b, off, none⟩) n c] 25)).alloc (.cells #[.float .f64 p, .float .f64 q] 27)).heap.size = w.heap.size + 1 + 1 by simp only [World.size_alloc]), World.cell?_alloc_new]; rfl
      have B0 : Bel w (((w.alloc (.cells #[.int .u8 3, .float .f64 r, .slice (some ⟨b, off, none⟩) n c] 25)).alloc (.cells #[.float .f64 p, .float .f64 q] 27)).alloc (.cells #[.float .f64 0, .float .f64 0] 27)) := bl_alloc (bl_alloc (bl_alloc (bl_refl w) _ _) _ _) _ _
      have h1 := h.bel B0
      go_enter Try.func13, Try.ntmps13
      go_wp2_with (first | (go_at_call 40; refine (rchk7 _ _ xs ys 3 r _ h1).mono ?_; rintro e wc ⟨rfl, hb⟩; rw [hz]; have Bc := bl_trans B0 hb; have S0 := keep hb z0_0; have S1 := keep hb z0_1; have S2 := keep hb z0_2; have K0 := keep hb z1_0; have K1 := keep hb z1_1; have R0 := keep hb z2_0; have R1 := keep hb z2_1; have hbc := hb) | (go_at_call 43; refine (real7 _ _ _ op oq).mono ?_; rintro e wd ⟨rfl, hb⟩; unfold inB; rw [hw]; replace Bc := bl_trans Bc hb; replace S0 := keep hb S0; replace S1 := keep hb S1; replace S2 := keep hb S2; replace K0 := keep hb K0; replace K1 := keep hb K1; replace R0 := keep hb R0; replace R1 := keep hb R1; have hld := (bl_trans hbc hb).size; (try simp only [World.size_alloc] at hld)) | (go_at_call 50; refine (rfar_all _ _ _ _ _ (h.bel Bc) p q op oq).mono ?_; rintro e w8 ⟨rfl, hb⟩; rw [hf, hwz]; replace Bc := bl_trans Bc hb; replace S2 := keep hb S2; replace R0 := keep hb R0; replace R1 := keep hb R1; have x0 := keep Bc a0; have x1 := keep Bc a1; have hbb := Nat.lt_of_lt_of_le hb0 Bc.size; have ZR := fun o => (Bc.2 ⟨w.heap.size + 1 + 1, o, none⟩).trans (fresh_frozen (by show _ ≤ _; omega))))
      obtain ⟨F0, F1⟩ := set2 (p := .float .f64 (xs fi)) (q := .float .f64 (ys fi)) R0 R1
      refine bodyPost_ret (v := .tuple #[.agg #[.float .f64 (xs fi), .float .f64 (ys fi)], .int .i64 0]) (by simp [F0, F1, results, Try.results13, go_sem] <;> (first | exact ⟨⟨rfl, rfl⟩, rfl⟩ | exact ⟨rfl, rfl, rfl, rfl⟩ | exact ⟨rfl, rfl, rfl⟩ | exact ⟨rfl, rfl⟩ | rfl)) rfl ⟨rfl, bl_set (bl_set Bc (show w.heap.size ≤ w.heap.size + 1 + 1 by omega)) (show w.heap.size ≤ w.heap.size + 1 + 1 by omega)⟩
  · obtain ⟨v, hv⟩ : ∃ v, shE k r xs ys n = v := ⟨_, rfl⟩
    rw [hv] at hz
    obtain ⟨e1, e2⟩ := farX_no (p := p) (q := q) (aE_no hv hz) hz
    have z0_0 : (w.alloc (.cells #[.int .u8 k, .float .f64 r, .slice a n c] 25)).cell? ⟨w.heap.size, 0, none⟩ = some (.int .u8 k) := by rw [World.cell?_alloc_new]; rfl
    replace z0_0 := up_alloc (o := .cells #[.float .f64 p, .float .f64 q] 27) z0_0
    replace z0_0 := up_alloc (o := .cells #[.float .f64 0, .float .f64 0] 27) z0_0
    have z0_1 : (w.alloc (.cells #[.int .u8 k, .float .f64 r, .slice a n c] 25)).cell? ⟨w.heap.size, 1, none⟩ = some (.float .f64 r) := by rw [World.cell?_alloc_new]; rfl
    replace z0_1 := up_alloc (o := .cells #[.float .f64 p, .float .f64 q] 27) z0_1
    replace z0_1 := up_alloc (o := .cells #[.float .f64 0, .float .f64 0] 27) z0_1
    have z0_2 : (w.alloc (.cells #[.int .u8 k, .float .f64 r, .slice a n c] 25)).cell? ⟨w.heap.size, 2, none⟩ = some (.slice a n c) := by rw [World.cell?_alloc_new]; rfl
    replace z0_2 := up_alloc (o := .cells #[.float .f64 p, .float .f64 q] 27) z0_2
    replace z0_2 := up_alloc (o := .cells #[.float .f64 0, .float .f64 0] 27) z0_2
    have z1_0 : ((w.alloc (.cells #[.int .u8 k, .float .f64 r, .slice a n c] 25)).alloc (.cells #[.float .f64 p, .float .f64 q] 27)).cell? ⟨w.heap.size + 1, 0, none⟩ = some (.float .f64 p) := by rw [← (show (w.alloc (.cells #[.int .u8 k, .float .f64 r, .slice a n c] 25)).heap.size = w.heap.size + 1 by simp only [World.size_alloc]), World.cell?_alloc_new]; rfl
    replace z1_0 := up_alloc (o := .cells #[.float .f64 0, .float .f64 0] 27) z1_0
    have z1_1 : ((w.alloc (.cells #[.int .u8 k, .float .f64 r, .slice a n c] 25)).alloc (.cells #[.float .f64 p, .float .f64 q] 27)).cell? ⟨w.heap.size + 1, 1, none⟩ = some (.float .f64 q) := by rw [← (show (w.alloc (.cells #[.int .u8 k, .float .f64 r, .slice a n c] 25)).heap.size = w.heap.size + 1 by simp only [World.size_alloc]), World.cell?_alloc_new]; rfl
    replace z1_1 := up_alloc (o := .cells #[.float .f64 0, .float .f64 0] 27) z1_1
    have z2_0 : (((w.alloc (.cells #[.int .u8 k, .float .f64 r, .slice a n c] 25)).alloc (.cells #[.float .f64 p, .float .f64 q] 27)).alloc (.cells #[.float .f64 0, .float .f64 0] 27)).cell? ⟨w.heap.size + 1 + 1, 0, none⟩ = some (.float .f64 0) := by rw [← (show ((w.alloc (.cells #[.int .u8 k, .float .f64 r, .slice a n c] 25)).alloc (.cells #[.float .f64 p, .float .f64 q] 27)).heap.size = w.heap.size + 1 + 1 by simp only [World.size_alloc]), World.cell?_alloc_new]; rfl
    have z2_1 : (((w.alloc (.cells #[.int .u8 k, .float .f64 r, .slice a n c] 25)).alloc (.cells #[.float .f64 p, .float .f64 q] 27)).alloc (.cells #[.float .f64 0, .float .f64 0] 27)).cell? ⟨w.heap.size + 1 + 1, 1, none⟩ = some (.float .f64 0) := by rw [← (show ((w.alloc (.cells #[.int .u8 k, .float .f64 r, .slice a n c] 25)).alloc (.cells #[.float .f64 p, .float .f64 q] 27)).heap.size = w.heap.size + 1 + 1 by simp only [World.size_alloc]), World.cell?_alloc_new]; rfl
    have B0 : Bel w (((w.alloc (.cells #[.int .u8 k, .float .f64 r, .slice a n c] 25)).alloc (.cells #[.float .f64 p, .float .f64 q] 27)).alloc (.cells #[.float .f64 0, .float .f64 0] 27)) := bl_alloc (bl_alloc (bl_alloc (bl_refl w) _ _) _ _) _ _
    have h1 := h.bel B0
    go_enter Try.func13, Try.ntmps13
    go_wp2_with (first | (go_at_call 40; refine (rchk7 _ _ xs ys k r _ h1).mono ?_; rintro e wc ⟨rfl, hb⟩; rw [hv]; have Bc := bl_trans B0 hb; have S0 := keep hb z0_0; have S1 := keep hb z0_1; have S2 := keep hb z0_2; have K0 := keep hb z1_0; have K1 := keep hb z1_1; have R0 := keep hb z2_0; have R1 := keep hb z2_1; have hbc := hb; have ZR := fun o => (Bc.2 ⟨w.heap.size + 1 + 1, o, none⟩).trans (fresh_frozen (by show _ ≤ _; omega))))
    obtain ⟨F0, F1⟩ := set2 (p := .float .f64 0) (q := .float .f64 0) R0 R1
    refine bodyPost_ret (v := .tuple #[.agg #[.float .f64 0, .float .f64 0], .int .i64 v]) (by simp [F0, F1, results, Try.results13, go_sem] <;> (first | exact ⟨⟨rfl, rfl⟩, rfl⟩ | exact ⟨rfl, rfl, rfl, rfl⟩ | exact ⟨rfl, rfl, rfl⟩ | exact ⟨rfl, rfl⟩ | rfl)) rfl ⟨by rw [e1, e2, aE_no hv hz], bl_set (bl_set Bc (show w.heap.size ≤ w.heap.size + 1 + 1 by omega)) (show w.heap.size ≤ w.heap.size + 1 + 1 by omega)⟩

end Go.Proofs.Ytiamgphpcjokmab
