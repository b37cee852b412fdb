/-
  What each function of package poly answers, and what the reference of its chapter answers: one contract a function, for every float: the answer stands in the relation of its formula to what was given; of the memory that was there nothing has turned.
-/
import Derived.Test.YtoofbfjlgablkaaVec
import Derived.Test.YtoofbfjlgablkaaMf
import Derived.Below
import Derived.WalkKit
import Derived.WalkLawsBesides
import Derived.WalkSpells
import Derived.ProofKit
import Derived.OpenShut
import Derived.Deep.RegionHeld3
namespace Go.Proofs.Ytoofbfjlgablkaa
open Go.ChangeShapes Go.WideShapes Go.ChangeAt Go.RowKit
set_option linter.unusedVariables false
set_option linter.unusedSimpArgs false


theorem set4_at {W : World} {n : Nat} {p q r s p0 q0 r0 s0 : Value} (h0 : W.cell? ⟨n, 0, none⟩ = some p0) (h1 : W.cell? ⟨n, 1, none⟩ = some q0) (h2 : W.cell? ⟨n, 2, none⟩ = some r0) (h3 : W.cell? ⟨n, 3, none⟩ = some s0) :
    ((((W.setCell ⟨n, 0, none⟩ p).setCell ⟨n, 1, none⟩ q).setCell ⟨n, 2, none⟩ r).setCell ⟨n, 3, none⟩ s).cell? ⟨n, 0, none⟩ = some p ∧ ((((W.setCell ⟨n, 0, none⟩ p).setCell ⟨n, 1, none⟩ q).setCell ⟨n, 2, none⟩ r).setCell ⟨n, 3, none⟩ s).cell? ⟨n, 1, none⟩ = some q ∧
    ((((W.setCell ⟨n, 0, none⟩ p).setCell ⟨n, 1, none⟩ q).setCell ⟨n, 2, none⟩ r).setCell ⟨n, 3, none⟩ s).cell? ⟨n, 2, none⟩ = some r ∧ ((((W.setCell ⟨n, 0, none⟩ p).setCell ⟨n, 1, none⟩ q).setCell ⟨n, 2, none⟩ r).setCell ⟨n, 3, none⟩ s).cell? ⟨n, 3, none⟩ = some s := by
  obtain ⟨W', rfl, a, b, c, d, _⟩ := put4_all (p := p) (q := q) (r := r) (s := s) h0 h1 h2 h3
  exact ⟨a, b, c, d⟩
theorem drew_new (W : World) (m : Nat) (c : Array Value) (t : TypeId) (i : Nat) (v : Value) (h : c[i]? = some v) : ((W.alloc (.cells c t)).drewN m).cell? ⟨W.heap.size, i, none⟩ = some v := (World.cell?_alloc_new W c t i).trans h
set_option maxRecDepth 100000 in
set_option maxHeartbeats 2000000 in
theorem join_none (v : Option Addr) (cap : Nat) (ms js xs ys : Nat → Nat) (w : World) : Calls Try.prog 6 #[.slice v 0 cap] w fun e w' => ∃ m j x y f, JoinA ms js xs ys 0 AboutR m j x y f ∧ e = .returned (.tuple #[.agg #[.float .f64 m, .float .f64 j, .float .f64 x, .float .f64 y], .int .i64 f]) ∧ Bel w w' := by
  have c1 := cmp_eq .f64
  have e0 : eqK .f64 0 0 = true := by decide +kernel
  go_enter Try.func6, Try.ntmps6
  go_wp2
  go_loopw [16] (fun i' wr => i' = .int .i64 0 ∧ Bel w wr ∧ wr.cell? ⟨w.heap.size, 0, none⟩ = some (.float .f64 0) ∧ wr.cell? ⟨w.heap.size, 1, none⟩ = some (.float .f64 0) ∧ wr.cell? ⟨w.heap.size, 2, none⟩ = some (.float .f64 0) ∧ wr.cell? ⟨w.heap.size, 3, none⟩ = some (.float .f64 0)) (fun i' _ => 0)
  case atStart => exact ⟨rfl, bl_alloc (bl_refl w) _ _, by rw [World.cell?_alloc_new]; rfl, by rw [World.cell?_alloc_new]; rfl, by rw [World.cell?_alloc_new]; rfl, by rw [World.cell?_alloc_new]; rfl⟩
  case round =>
    obtain ⟨rfl, hB, z0, z1, z2, z3⟩ := hrel
    go_wp2_with (first | (go_at_call 19; refine (sumOf0_any _ _ _).mono ?_; rintro e w_2 ⟨rfl, hb⟩; have B2 := bl_trans hB hb; have r0 := keep hb z0; have r1 := keep hb z1; have r2 := keep hb z2; have r3 := keep hb z3; have fR : ∀ o, w_2.frozen? ⟨w.heap.size, o, none⟩ = false := fun o => (B2.2 _).trans (fresh_frozen (Nat.le_refl _))))
    refine bodyPost_ret (v := .tuple #[.agg #[.float .f64 0, .float .f64 0, .float .f64 0, .float .f64 0], .int .i64 0]) (by simp [r0, r1, r2, r3, results, Try.results6, go_sem] <;> (first | exact ⟨⟨rfl, rfl, rfl, rfl⟩, rfl⟩ | exact ⟨rfl, rfl, rfl, rfl, rfl⟩ | exact ⟨rfl, rfl⟩ | rfl)) rfl ⟨_, _, _, _, _, .inr (.inr (.inl ⟨rfl, rfl, rfl, rfl, rfl, rfl⟩)), rfl, ?_⟩
    repeat (first | exact B2 | refine bl_set ?_ (by simp <;> omega))
set_option maxRecDepth 100000 in
set_option maxHeartbeats 4000000 in
theorem join_some (b off n cap : Nat) (ms js xs ys : Nat → Nat) (w : World) (hM : Ml w b off n ms js xs ys) (hp : 0 < n) (hcap : n ≤ cap) (hL : n ≤ 10000000) : Calls Try.prog 6 #[.slice (some ⟨b, off, none⟩) n cap] w fun e w' => ∃ m j x y f, JoinA ms js xs ys n AboutR m j x y f ∧ e = .returned (.tuple #[.agg #[.float .f64 m, .float .f64 j, .float .f64 x, .float .f64 y], .int .i64 f]) ∧ Bel w w' := by
  have c1 := cmp_eq .f64
  have q1 := run_quo Try.prog
  have lb := hM.lt hp
  by_cases hbig : 16384 < n
  · have g : ((n : Int) > 16384) := by omega
    go_enter Try.func6, Try.ntmps6
    go_wp2
    refine bodyPost_ret (v := .tuple #[.agg #[.float .f64 0, .float .f64 0, .float .f64 0, .float .f64 0], .int .i64 4]) (by simp [results, Try.results6, go_sem] <;> (first | exact ⟨⟨rfl, rfl, rfl, rfl⟩, rfl⟩ | exact ⟨rfl, rfl, rfl, rfl, rfl⟩ | exact ⟨rfl, rfl⟩ | rfl)) rfl ⟨_, _, _, _, _, .inl ⟨hbig, rfl, rfl, rfl, rfl, rfl⟩, rfl, ?_⟩
    repeat (first | exact bl_refl _ | assumption | apply bl_drewN | apply bl_drew | apply bl_alloc | refine bl_set ?_ (by simp <;> omega) | refine bl_trans ?_ (by assumption))
  · have g : ¬ ((n : Int) > 16384) := by omega
    go_enter Try.func6, Try.ntmps6
    go_wp2
    go_loopw [16] (fun i' wr => ∃ k : Nat, k ≤ n ∧ i' = .int .i64 k ∧ Bel w wr ∧ (∀ q, q < k → mB (ms q) (js q) (xs q) (ys q) = true) ∧ wr.cell? ⟨w.heap.size, 0, none⟩ = some (.float .f64 0) ∧ wr.cell? ⟨w.heap.size, 1, none⟩ = some (.float .f64 0) ∧ wr.cell? ⟨w.heap.size, 2, none⟩ = some (.float .f64 0) ∧ wr.cell? ⟨w.heap.size, 3, none⟩ = some (.float .f64 0)) (fun i' _ => n - (intOf i').toNat)
    case atStart => exact ⟨0, by omega, rfl, bl_alloc (bl_refl w) _ _, fun q hq => by omega, by rw [World.cell?_alloc_new]; rfl, by rw [World.cell?_alloc_new]; rfl, by rw [World.cell?_alloc_new]; rfl, by rw [World.cell?_alloc_new]; rfl⟩
    case round =>
      obtain ⟨k, hk, rfl, hB, hall, z0, z1, z2, z3⟩ := hrel
      have hbb : b < wr.heap.size := Nat.lt_of_lt_of_le lb hB.size
      have lH := World.block_lt_of_cell? _ _ z0
      simp only at lH
      by_cases hlt : k < n
      · have k1 : (k : Int) < (n : Int) := by omega
        obtain ⟨m0, m1, m2, m3⟩ := (hM.bel hB) k hlt
        cases hm : mB (ms k) (js k) (xs k) (ys k)
        · have e := mE_no hm
          go_wp2_with (first | (go_at_call 10; refine (mChk_any _ _ _ _ _).mono ?_; rintro e w_2 ⟨rfl, hb⟩; rw [e]; have BT := bl_trans (bl_alloc (bl_refl wr) _ _) hb; have B2 := bl_trans hB BT; have r0 := keep BT z0; have r1 := keep BT z1; have r2 := keep BT z2; have r3 := keep BT z3; have fR : ∀ o, w_2.frozen? ⟨w.heap.size, o, none⟩ = false := fun o => (B2.2 _).trans (fresh_frozen (Nat.le_refl _))))
          refine bodyPost_ret (v := .tuple #[.agg #[.float .f64 0, .float .f64 0, .float .f64 0, .float .f64 0], .int .i64 80]) (by simp [r0, r1, r2, r3, results, Try.results6, go_sem] <;> (first | exact ⟨⟨rfl, rfl, rfl, rfl⟩, rfl⟩ | exact ⟨rfl, rfl, rfl, rfl, rfl⟩ | exact ⟨rfl, rfl⟩ | rfl)) rfl ⟨_, _, _, _, _, .inr (.inl ⟨by omega, (fun h => by rw [h k hlt] at hm; cases hm), rfl, rfl, rfl, rfl, rfl⟩), rfl, ?_⟩
          repeat (first | exact B2 | refine bl_set ?_ (by simp <;> omega))
        · have e := mE_yes hm
          go_wp2_with (first | (go_at_call 10; refine (mChk_any _ _ _ _ _).mono ?_; rintro e w_2 ⟨rfl, hb⟩; rw [e]; have BT := bl_trans (bl_alloc (bl_refl wr) _ _) hb; have B2 := bl_trans hB BT; have r0 := keep BT z0; have r1 := keep BT z1; have r2 := keep BT z2; have r3 := keep BT z3))
          refine ⟨⟨k + 1, by omega, by go_num, B2, fun q hq => ?_, r0, r1, r2, r3⟩, by simp [intOf]; omega⟩
          by_cases e : q = k
          · subst e; exact hm
          · exact hall q (by omega)
      · have hkn : k = n := by omega
        subst hkn
        have hM2 := hM.bel hB
        have fR : ∀ o, wr.frozen? ⟨w.heap.size, o, none⟩ = false := fun o => (hB.2 _).trans (fresh_frozen (Nat.le_refl _))
        have fM : ∀ {W : World}, Bel wr W → ∀ o, W.frozen? ⟨w.heap.size, o, none⟩ = false := fun h o => (h.2 _).trans (fR o)
        by_cases h1 : k = 1
        · subst h1
          obtain ⟨m0, m1, m2, m3⟩ := hM2 0 (by decide)
          simp only [Nat.zero_mul, Nat.add_zero] at m0 m1 m2 m3
          go_wp2
          obtain ⟨R0, R1, R2, R3⟩ := set4_at (p := .float .f64 (ms 0)) (q := .float .f64 (js 0)) (r := .float .f64 (xs 0)) (s := .float .f64 (ys 0)) z0 z1 z2 z3
          refine bodyPost_ret (v := .tuple #[.agg #[.float .f64 (ms 0), .float .f64 (js 0), .float .f64 (xs 0), .float .f64 (ys 0)], .int .i64 0]) (by simp [R0, R1, R2, R3, results, Try.results6, go_sem] <;> (first | exact ⟨⟨rfl, rfl, rfl, rfl⟩, rfl⟩ | exact ⟨rfl, rfl, rfl, rfl, rfl⟩ | exact ⟨rfl, rfl⟩ | rfl)) rfl ⟨_, _, _, _, _, .inr (.inr (.inr (.inl ⟨rfl, hall, rfl, rfl, rfl, rfl, rfl⟩))), rfl, ?_⟩
          repeat (first | exact hB | refine bl_set ?_ (by simp <;> omega))
        · have h1' : ¬ (k : Int) = 1 := by omega
          have hk2 : k ≤ 20000 := by omega
          go_wp2_with (first | (go_at_call 19; with_reducible refine (sumOf1_any _ _ k _ ms js xs ys _ hM2 hp hk2 hcap).mono ?_; rintro e w_2 ⟨M, hMs, rfl, hb⟩; have B2 := hb; have hM3 := hM2.bel B2; have r0 := keep B2 z0; have r1 := keep B2 z1; have r2 := keep B2 z2; have r3 := keep B2 z3; have f2 := fM B2) | (go_at_call 19; with_reducible refine (sumOf2_any _ _ k _ ms js xs ys _ hM3 hp hk2 hcap).mono ?_; rintro e w_3 ⟨sx, hX, rfl, hb⟩; have B3 := bl_trans B2 hb; have hM4 := hM2.bel (bl_drewN B3 (fd .quo .f64 sx M))) | (go_at_call 19; with_reducible refine (sumOf3_any _ _ k _ ms js xs ys _ hM4 hp hk2 hcap).mono ?_; rintro e w_4 ⟨sy, hY, rfl, hb⟩; have B4 := bl_trans (bl_drewN B3 _) hb; have B4a := bl_drewN (bl_alloc B4 #[.float .f64 (fv .quo .f64 sx M w_3), .float .f64 (fv .quo .f64 sy M w_4)] 26) (fd .quo .f64 sy M); have hM5 := hM2.bel B4a; have kc0 := drew_new w_4 (fd .quo .f64 sy M) #[.float .f64 (fv .quo .f64 sx M w_3), .float .f64 (fv .quo .f64 sy M w_4)] 26 0 _ rfl; have kc1 := drew_new w_4 (fd .quo .f64 sy M) #[.float .f64 (fv .quo .f64 sx M w_3), .float .f64 (fv .quo .f64 sy M w_4)] 26 1 _ rfl) | (go_at_call 19; with_reducible refine (sumOf4_any _ _ k _ ms js xs ys _ hM5 _ _ _ kc0 kc1 hp hk2 hcap).mono ?_; rintro e w_5 ⟨I, hI, rfl, hb⟩; have B5 := bl_trans B4a hb; have kd0 := keep hb kc0; have kd1 := keep hb kc1) | (go_at_call 25; refine (told_any _ _ _ _ _).mono ?_; rintro e w_6 ⟨m1, j1, x1, y1, e1, hTo, rfl, hb⟩; have B6 := bl_trans B5 hb; have f6 := fM B6; have v0 := keep B6 z0; have v1 := keep B6 z1; have v2 := keep B6 z2; have v3 := keep B6 z3))
          · have hz : eqK .f64 M 0 = true := by first | assumption | simp_all
            obtain ⟨R0, R1, R2, R3⟩ := set4_at (p := .float .f64 0) (q := .float .f64 0) (r := .float .f64 0) (s := .float .f64 0) r0 r1 r2 r3
            refine bodyPost_ret (v := .tuple #[.agg #[.float .f64 0, .float .f64 0, .float .f64 0, .float .f64 0], .int .i64 0]) (by simp [R0, R1, R2, R3, results, Try.results6, go_sem] <;> (first | exact ⟨⟨rfl, rfl, rfl, rfl⟩, rfl⟩ | exact ⟨rfl, rfl, rfl, rfl, rfl⟩ | exact ⟨rfl, rfl⟩ | rfl)) rfl ⟨_, _, _, _, _, .inr (.inr (.inr (.inr ⟨by omega, by omega, hall, _, hMs, .inl ⟨hz, rfl, rfl, rfl, rfl, rfl⟩⟩))), rfl, ?_⟩
            repeat (first | exact bl_trans hB B2 | refine bl_set ?_ (by simp <;> omega))
          · have hz : eqK .f64 M 0 = false := by first | assumption | exact Bool.eq_false_iff.2 (by assumption) | simp_all
            obtain ⟨R0, R1, R2, R3⟩ := set4_at (p := .float .f64 m1) (q := .float .f64 j1) (r := .float .f64 x1) (s := .float .f64 y1) v0 v1 v2 v3
            refine bodyPost_ret (v := .tuple #[.agg #[.float .f64 m1, .float .f64 j1, .float .f64 x1, .float .f64 y1], .int .i64 e1]) (by simp [R0, R1, R2, R3, results, Try.results6, go_sem] <;> (first | exact ⟨⟨rfl, rfl, rfl, rfl⟩, rfl⟩ | exact ⟨rfl, rfl, rfl, rfl, rfl⟩ | exact ⟨rfl, rfl⟩ | rfl)) rfl ⟨_, _, _, _, _, .inr (.inr (.inr (.inr ⟨by omega, by omega, hall, _, hMs, .inr ⟨hz, _, _, _, _, _, hX, hY, fv_res .quo .f64 _ _ _, fv_res .quo .f64 _ _ _, hI, hTo⟩⟩))), rfl, ?_⟩
            repeat (first | exact bl_trans hB B6 | refine bl_set ?_ (by simp <;> omega))

end Go.Proofs.Ytoofbfjlgablkaa
