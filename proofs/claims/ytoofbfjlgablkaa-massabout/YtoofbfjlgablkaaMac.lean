/-
  MassAbout: what the law calls, and its walk.
-/
import Derived.Test.YtoofbfjlgablkaaMab
import Derived.Below
import Derived.OwnWalk
import Derived.Laws.AppendOwn
import Derived.Laws.StructEq
import Derived.WalkKit
import Derived.WalkLawsBesides
import Derived.WalkSpells
import Derived.ProofKit
import Derived.OpenShut
import Derived.Deep.RegionHeld3
namespace Go.Proofs.Ytoofbfjlgablkaa
open Go.ChangeShapes Go.WideShapes Go.ChangeAt Go.RowKit
set_option linter.unusedVariables false
set_option linter.unusedSimpArgs false

set_option maxRecDepth 100000 in
set_option maxHeartbeats 16000000 in
theorem about_some (b off n cap : Nat) (ms js xs ys : Nat → Nat) (px py : Nat) (op : okK .f64 px) (oq : okK .f64 py) (w : World) (hM : Ml w b off n ms js xs ys) (hp : 0 < n) (h64 : n ≤ 64) (a2 : n ≤ cap) (o4 : ∀ i, i < n → okK .f64 (ms i) ∧ okK .f64 (js i) ∧ okK .f64 (xs i) ∧ okK .f64 (ys i)) : Calls Try.prog 4 #[.slice (some ⟨b, off, none⟩) n cap, .agg #[.float .f64 px, .float .f64 py]] w fun e w' => e = .returned (.bool true) ∧ Bel w w' := by
  have hL : n ≤ 10000000 := by omega
  have h64I : ¬ (n : Int) > 64 := by omega
  have h64J : ¬ (64 : Int) < (n : Int) := by omega
  have hw1 := wr_one (n : Int) (by omega)
  have kp0 : (w.alloc (.cells #[.float .f64 px, .float .f64 py] 26)).cell? ⟨w.heap.size, 0, none⟩ = some (.float .f64 px) := by rw [World.cell?_alloc_new]; rfl
  have kp1 : (w.alloc (.cells #[.float .f64 px, .float .f64 py] 26)).cell? ⟨w.heap.size, 1, none⟩ = some (.float .f64 py) := by rw [World.cell?_alloc_new]; rfl
  go_enter Try.func4, Try.ntmps4
  repeat (first | (go_at_call 5; (with_reducible refine (alive8 _).mono ?_); rintro e w1 ⟨rfl, hb⟩; have kp0 := keep hb kp0; have kp1 := keep hb kp1; have B1 := bl_trans (bl_alloc (bl_refl w) _ _) hb; clear hb) | (go_at_call 6; (with_reducible refine (join_some b off n cap ms js xs ys _ (hM.bel B1) hp a2 hL).mono ?_); rintro e w2 ⟨m, j, x, y, f, hJ, rfl, hb⟩; have bM := bl_trans hb (bl_alloc (bl_refl w2) (#[.float .f64 m, .float .f64 j, .float .f64 x, .float .f64 y] : Array Value) 28); have kp0 := keep bM kp0; have kp1 := keep bM kp1; have BB := bl_trans B1 bM; have u0 : (w2.alloc (.cells #[.float .f64 m, .float .f64 j, .float .f64 x, .float .f64 y] 28)).cell? ⟨w2.heap.size, 0, none⟩ = some (.float .f64 m) := (by rw [World.cell?_alloc_new]; rfl); have u1 : (w2.alloc (.cells #[.float .f64 m, .float .f64 j, .float .f64 x, .float .f64 y] 28)).cell? ⟨w2.heap.size, 1, none⟩ = some (.float .f64 j) := (by rw [World.cell?_alloc_new]; rfl); have u2 : (w2.alloc (.cells #[.float .f64 m, .float .f64 j, .float .f64 x, .float .f64 y] 28)).cell? ⟨w2.heap.size, 2, none⟩ = some (.float .f64 x) := (by rw [World.cell?_alloc_new]; rfl); have u3 : (w2.alloc (.cells #[.float .f64 m, .float .f64 j, .float .f64 x, .float .f64 y] 28)).cell? ⟨w2.heap.size, 3, none⟩ = some (.float .f64 y) := (by rw [World.cell?_alloc_new]; rfl); clear hb bM) | go_values | go_skip | go_guarded | go_step | go_upon | go_back | dsimp only)
  have hMB : w2.heap.size < (w2.alloc (.cells #[.float .f64 m, .float .f64 j, .float .f64 x, .float .f64 y] 28)).heap.size := by rw [World.size_alloc]; omega
  generalize (w2.alloc (.cells #[.float .f64 m, .float .f64 j, .float .f64 x, .float .f64 y] 28)) = wB at *
  generalize w2.heap.size = mb at *
  go_loopw [8, 9, 10] (fun v X i wr => ∃ q kk xw z, q + kk = n ∧ i = .int .i64 z ∧ z = (kk : Int) - 1 ∧ X = .float .f64 xw ∧ MX (fun i => xs (n - 1 - i)) (fun i => ys (n - 1 - i)) q xw ∧ OwnR 4 wB.heap.size wr v q (mRow (fun i => ms (n - 1 - i)) (fun i => js (n - 1 - i)) (fun i => xs (n - 1 - i)) (fun i => ys (n - 1 - i)) q) ∧ Bel wB wr) (fun _ _ i _ => (intOf i + 1).toNat)
  case atStart => exact ⟨0, n, 0, _, by omega, rfl, rfl, rfl, MX.zero _ _, OwnR.nil 4 _ _, bl_refl _⟩
  case round =>
    obtain ⟨q, kk, xw, z, hqk, rfl, hz, rfl, hX, hO, hB⟩ := hrel
    by_cases hk1 : 1 ≤ kk
    · obtain ⟨k, rfl⟩ : ∃ k, kk = k + 1 := ⟨kk - 1, by omega⟩
      have hkn : k < n := by omega
      have hkI : z < (n : Int) := by omega
      have hkC : z < (cap : Int) := by omega
      have hk0 : 0 ≤ z := by omega
      have hk0' : ¬ z < 0 := by omega
      have hzk : z.toNat = k := by omega
      obtain ⟨y0, y1, y2, y3⟩ := (hM.bel (bl_trans BB hB)) k hkn
      have er : n - 1 - q = k := by omega
      have hw2 : wrap64 (z - 1) = z - 1 := wr_one _ (by omega)
      have hze : z - 1 = (k : Int) - 1 := by omega
      clear hz
      have hsz := hB.size
      repeat (first | (at_builtin; refine wpList_appR (P := Try.prog) (sz := 4) (by_ := 32) (R := mRow (fun i => ms (n - 1 - i)) (fun i => js (n - 1 - i)) (fun i => xs (n - 1 - i)) (fun i => ys (n - 1 - i)) q) (N := [.float .f64 (ms k), .float .f64 (js k), .float .f64 (xs k), .float .f64 (ys k)]) 22 28 rfl _ _ rfl Try.underlying22 info_mass rfl rfl _ 0 1 1 rfl (hO.bel (bl_alloc (bl_refl wr) _ _)) rfl (row_new wr [.float .f64 (ms k), .float .f64 (js k), .float .f64 (xs k), .float .f64 (ys k)] 28) (ones _ rfl) (by decide) (by simp only [World.size_alloc]; omega) (by unfold maxLen; omega) (by omega) ?_; intro v9 w9 hO9 hv9 hbX; obtain ⟨g9, c9, rfl⟩ := hv9; have hB9 := hbX wB (bl_trans hB (bl_alloc (bl_refl wr) _ _)) (Nat.le_refl _); clear hbX) | go_values | go_skip | go_guarded | go_step | go_upon | go_back | dsimp only)
      clear y0 y1 y2 y3
      obtain ⟨y0, y1, y2, y3⟩ := (hM.bel (bl_trans BB hB9)) k hkn
      have ok4 := o4 k hkn
      have hmx := run_mx3
      have hst : ∀ W1 W2, MX (fun i => xs (n - 1 - i)) (fun i => ys (n - 1 - i)) (q + 1) (mx2 (mx2 xw (rgK .f64 (xs k)) W1) (rgK .f64 (ys k)) W2) := fun W1 W2 => by
        have h := hX.step W1 W2 (by simp only [er]; exact ok4.2.2.1) (by simp only [er]; exact ok4.2.2.2)
        simp only [er] at h
        exact h
      have hO8 : OwnR 4 wB.heap.size w9 (.slice (some ⟨g9, 0, none⟩) (q + 1) c9) (q + 1) (mRow (fun i => ms (n - 1 - i)) (fun i => js (n - 1 - i)) (fun i => xs (n - 1 - i)) (fun i => ys (n - 1 - i)) (q + 1)) := by
        rw [mRow_snoc]
        simp only [er]
        exact hO9
      clear hX hO hO9 hB hsz
      go_region_held3 (fun w1 => w1.cell? ⟨b, off + k * 4 + 2, none⟩ = some (.float .f64 (xs k)) ∧ w1.cell? ⟨b, off + k * 4 + 2 + 1, none⟩ = some (.float .f64 (ys k))) (first | ((try go_split_ands); refine ⟨?_, ?_⟩ <;> (first | ((repeat' (first | (with_reducible assumption) | (with_reducible refine up_drew ?_) | (with_reducible refine up_drewN ?_) | (with_reducible refine keep hb ?_) | (with_reducible refine up_set2 ?_ ?_) | (with_reducible refine (cell_own ?_ _ _ _).1) | (with_reducible refine (cell_own ?_ _ _ _).2) | (with_reducible refine up_alloc ?_) | omega | (simp; done))); done) | go_keep)))
        (first | (go_at_call 9; refine (abs_any _ _ (by first | exact ok4.2.2.1 | exact ok4.2.2.2)).mono ?_; rintro e w1 ⟨rfl, rfl⟩))
      all_goals go_wp2
      refine ⟨⟨q + 1, k, _, _, by omega, rfl, rfl, rfl, hst _ _, hO8.bel ?_, ?_⟩, ?_⟩
      · exact bl_drewN (bl_refl _) _
      · exact bl_drewN hB9 _
      · simp [intOf] <;> omega
    · have hk0 : ¬ 0 ≤ z := by omega
      have hk0' : z < 0 := by omega
      obtain rfl : q = n := by omega
      obtain ⟨g, c, rfl, hgc, hMr⟩ := own_row hO hp
      clear hO hz hk1 hqk
      have kp0 := keep hB kp0
      have kp1 := keep hB kp1
      have u0 := keep hB u0
      have u1 := keep hB u1
      have u2 := keep hB u2
      have u3 := keep hB u3
      have BB := bl_trans BB hB
      have hMs := hM.bel BB
      clear hB hMB B1
      repeat ((fail_if_success (with_reducible show wpList _ _ _ ({ dst := some 66, op := _, type := _, pos := _, after := _, guard := _ } :: _) _ _)); (first | (go_at_call 6; (with_reducible refine (join_some g 0 q c _ _ _ _ _ hMr hp hgc hL).mono ?_); rintro e w3 ⟨m2, j2, x2, y2, f2, hJ2, rfl, hb⟩; have bM := bl_trans hb (bl_alloc (bl_refl w3) (#[.float .f64 m2, .float .f64 j2, .float .f64 x2, .float .f64 y2] : Array Value) 28); have kp0 := keep bM kp0; have kp1 := keep bM kp1; have BB := bl_trans BB bM; have hMs := hMs.bel bM; have u0 := keep bM u0; have u1 := keep bM u1; have u2 := keep bM u2; have u3 := keep bM u3; have s0 : (w3.alloc (.cells #[.float .f64 m2, .float .f64 j2, .float .f64 x2, .float .f64 y2] 28)).cell? ⟨w3.heap.size, 0, none⟩ = some (.float .f64 m2) := (by rw [World.cell?_alloc_new]; rfl); have s1 : (w3.alloc (.cells #[.float .f64 m2, .float .f64 j2, .float .f64 x2, .float .f64 y2] 28)).cell? ⟨w3.heap.size, 1, none⟩ = some (.float .f64 j2) := (by rw [World.cell?_alloc_new]; rfl); have s2 : (w3.alloc (.cells #[.float .f64 m2, .float .f64 j2, .float .f64 x2, .float .f64 y2] 28)).cell? ⟨w3.heap.size, 2, none⟩ = some (.float .f64 x2) := (by rw [World.cell?_alloc_new]; rfl); have s3 : (w3.alloc (.cells #[.float .f64 m2, .float .f64 j2, .float .f64 x2, .float .f64 y2] 28)).cell? ⟨w3.heap.size, 3, none⟩ = some (.float .f64 y2) := (by rw [World.cell?_alloc_new]; rfl); clear hb bM hMr) | go_values | go_skip | go_guarded | go_step | go_upon | go_back | dsimp only))
      obtain ⟨z0, z1, z2, z3⟩ := hMs 0 hp
      simp only [Nat.zero_mul, Nat.add_zero] at z0 z1 z2 z3
      generalize (w3.alloc (.cells #[.float .f64 m2, .float .f64 j2, .float .f64 x2, .float .f64 y2] 28)) = w4 at *
      generalize w3.heap.size = sb at *
      have hqI : (0 : Int) < (q : Int) := by omega
      have hqC : (0 : Int) < (cap : Int) := by omega
      have ncmp := cmp_ne .f64
      have lcmp := cmp_lt .f64
      clear hw1
      rcases joinA_f h64 hJ with rfl | rfl
      · rcases joinA_f h64 hJ2 with rfl | rfl
        · obtain ⟨hm, ox, oy⟩ := joinA_ok h64 (fun i hi => ⟨(o4 i hi).2.2.1, (o4 i hi).2.2.2⟩) hJ
          cases hfar : (withinK .f64 px 4787326403894837248 && withinK .f64 py 4787326403894837248)
          all_goals
            by_cases h1 : q = 1
            · obtain rfl : q = 1 := h1
              obtain ⟨e1, e2, e3, e4, _⟩ := joinA_one hJ
              have sm1 : smK .f64 m (ms 0) = true := by rw [e1]; exact smK_self _ _
              have sm2 : smK .f64 j (js 0) = true := by rw [e2]; exact smK_self _ _
              have sm3 : smK .f64 x (xs 0) = true := by rw [e3]; exact smK_self _ _
              have sm4 : smK .f64 y (ys 0) = true := by rw [e4]; exact smK_self _ _
              clear e1 e2 e3 e4
              repeat (first | (have zn := tgA; clear zn tgA; go_at_call 11; (with_reducible refine (mAbout_any m j x y px py _).mono ?_); rintro e w6 ⟨r2, k2, hA2, rfl, hb⟩; have h2 := aba_more hm ox oy op oq wa hA2; rw [hfar] at h2; (try simp only [Bool.false_eq_true, Bool.true_eq_false, false_and, or_false, false_or, true_and, reduceCtorEq, eq_self] at h2); (first | subst h2 | (obtain ⟨rfl, hlt⟩ := h2)); replace u0 := keep hb u0; replace u1 := keep hb u1; replace u2 := keep hb u2; replace u3 := keep hb u3; replace s0 := keep hb s0; replace s1 := keep hb s1; replace s2 := keep hb s2; replace s3 := keep hb s3; replace z0 := keep hb z0; replace z1 := keep hb z1; replace z2 := keep hb z2; replace z3 := keep hb z3; replace kp0 := keep hb kp0; replace kp1 := keep hb kp1; replace BB := bl_trans BB hb; clear hb; have tgB := True.intro) | (go_at_call 11; (with_reducible refine (mAbout_any m j x y x y _).mono ?_); rintro e w5 ⟨r1, k1, hA1, rfl, hb⟩; obtain ⟨rfl, fa, wa, ea⟩ := aba_self hm ox oy hA1; replace u0 := keep hb u0; replace u1 := keep hb u1; replace u2 := keep hb u2; replace u3 := keep hb u3; replace s0 := keep hb s0; replace s1 := keep hb s1; replace s2 := keep hb s2; replace s3 := keep hb s3; replace z0 := keep hb z0; replace z1 := keep hb z1; replace z2 := keep hb z2; replace z3 := keep hb z3; replace kp0 := keep hb kp0; replace kp1 := keep hb kp1; replace BB := bl_trans BB hb; clear hb; have tgA := True.intro) | (go_at_call 12; (with_reducible refine (vWithin_any _ _ _ _).mono ?_); rintro e wz ⟨rfl, hb⟩; simp only [hfar]; replace u0 := keep hb u0; replace u1 := keep hb u1; replace u2 := keep hb u2; replace u3 := keep hb u3; replace s0 := keep hb s0; replace s1 := keep hb s1; replace s2 := keep hb s2; replace s3 := keep hb s3; replace z0 := keep hb z0; replace z1 := keep hb z1; replace z2 := keep hb z2; replace z3 := keep hb z3; replace kp0 := keep hb kp0; replace kp1 := keep hb kp1; replace BB := bl_trans BB hb; clear hb) | go_values | go_skip | go_guarded | go_step | go_upon | go_back | dsimp only)
              have E9 := belBy_some wz
              have vu0 := belBy_cell (W := wz) u0
              have vu1 := belBy_cell (W := wz) u1
              have vu2 := belBy_cell (W := wz) u2
              have vu3 := belBy_cell (W := wz) u3
              have vz0 := belBy_cell (W := wz) z0
              have vz1 := belBy_cell (W := wz) z1
              have vz2 := belBy_cell (W := wz) z2
              have vz3 := belBy_cell (W := wz) z3
              refine wp_region_quiet_bel (by kernel_rfl) (by kernel_rfl) ?_
              repeat (go_big_quiet_step ((go_at_call 8; exact calls_bel (same8 _ _ _ _ _ _ _ _ _ sm1 sm2 sm3 sm4))))
              refine wpQuiet_nil ?_
              rintro _ ⟨nq, rfl⟩
              repeat (first | go_values | go_skip | go_guarded | go_step | go_upon | go_back | dsimp only)
              go_ret
              exact ⟨rfl, bl_trans BB nq.h⟩
            · have h1I : ¬ (q : Int) = 1 := by omega
              obtain ⟨hall, hJM⟩ := joinA_two (by omega) h64 hJ
              obtain ⟨_, hJM2⟩ := joinA_two (by omega) h64 hJ2
              cases t1 : ltK .f64 m 4156822456062967808
              · cases t2 : ltK .f64 xw 553942754166571008
                · have m0 : m ≠ 0 := by rintro rfl; rw [tinies.2.2.2.2] at t1; cases t1
                  obtain ⟨_, _, hsm, _⟩ := joinM_is hJM m0
                  have om := sumR_ok (by omega) hsm
                  have oX := hX.1
                  obtain ⟨fX, pX, bX⟩ := hX.2 (fun i hi => by
                    have hb := hall (q - 1 - i) (by omega)
                    have ob := o4 (q - 1 - i) (by omega)
                    obtain ⟨_, _, c3, c4⟩ := mB_is hb ob.2.2.1 ob.2.2.2
                    exact ⟨c3.2.1, c4.2.1⟩)
                  obtain ⟨n1, n2, n3⟩ := back_near (ms := ms) (js := js) (xs := xs) (ys := ys) (by omega) h64 (fun i _ => ⟨rfl, rfl, rfl⟩) hall (fun i hi => ⟨(o4 i hi).2.2.1, (o4 i hi).2.2.2⟩) hJM hJM2 fX (fun i hi => by
                    have hb := bX (q - 1 - i) (by omega)
                    simp only [show q - 1 - (q - 1 - i) = i by omega] at hb
                    exact hb) pX t1 t2
                  clear hX
                  repeat (first | (have zn := tgA; clear zn tgA; go_at_call 11; (with_reducible refine (mAbout_any m j x y px py _).mono ?_); rintro e w6 ⟨r2, k2, hA2, rfl, hb⟩; have h2 := aba_more hm ox oy op oq wa hA2; rw [hfar] at h2; (try simp only [Bool.false_eq_true, Bool.true_eq_false, false_and, or_false, false_or, true_and, reduceCtorEq, eq_self] at h2); (first | subst h2 | (obtain ⟨rfl, hlt⟩ := h2)); replace u0 := keep hb u0; replace u1 := keep hb u1; replace u2 := keep hb u2; replace u3 := keep hb u3; replace s0 := keep hb s0; replace s1 := keep hb s1; replace s2 := keep hb s2; replace s3 := keep hb s3; replace z0 := keep hb z0; replace z1 := keep hb z1; replace z2 := keep hb z2; replace z3 := keep hb z3; replace kp0 := keep hb kp0; replace kp1 := keep hb kp1; replace BB := bl_trans BB hb; clear hb; have tgB := True.intro) | (go_at_call 11; (with_reducible refine (mAbout_any m j x y x y _).mono ?_); rintro e w5 ⟨r1, k1, hA1, rfl, hb⟩; obtain ⟨rfl, fa, wa, ea⟩ := aba_self hm ox oy hA1; replace u0 := keep hb u0; replace u1 := keep hb u1; replace u2 := keep hb u2; replace u3 := keep hb u3; replace s0 := keep hb s0; replace s1 := keep hb s1; replace s2 := keep hb s2; replace s3 := keep hb s3; replace z0 := keep hb z0; replace z1 := keep hb z1; replace z2 := keep hb z2; replace z3 := keep hb z3; replace kp0 := keep hb kp0; replace kp1 := keep hb kp1; replace BB := bl_trans BB hb; clear hb; have tgA := True.intro) | (go_at_call 12; (with_reducible refine (vWithin_any _ _ _ _).mono ?_); rintro e wz ⟨rfl, hb⟩; simp only [hfar]; replace u0 := keep hb u0; replace u1 := keep hb u1; replace u2 := keep hb u2; replace u3 := keep hb u3; replace s0 := keep hb s0; replace s1 := keep hb s1; replace s2 := keep hb s2; replace s3 := keep hb s3; replace z0 := keep hb z0; replace z1 := keep hb z1; replace z2 := keep hb z2; replace z3 := keep hb z3; replace kp0 := keep hb kp0; replace kp1 := keep hb kp1; replace BB := bl_trans BB hb; clear hb) | (have zn := tg2; clear zn tg2; go_at_call 13; (with_reducible refine (nearly_any y y2 xw _ oX _).mono ?_); rintro e w7 ⟨d7, q7, hd7, hq7, rfl, hb⟩; simp only [near_yes n3 hd7 hq7]; clear hd7 hq7; replace u0 := keep hb u0; replace u1 := keep hb u1; replace u2 := keep hb u2; replace u3 := keep hb u3; replace s0 := keep hb s0; replace s1 := keep hb s1; replace s2 := keep hb s2; replace s3 := keep hb s3; replace z0 := keep hb z0; replace z1 := keep hb z1; replace z2 := keep hb z2; replace z3 := keep hb z3; replace kp0 := keep hb kp0; replace kp1 := keep hb kp1; replace BB := bl_trans BB hb; clear hb; have tg3 := True.intro) | (have zn := tg1; clear zn tg1; go_at_call 13; (with_reducible refine (nearly_any x x2 xw _ oX _).mono ?_); rintro e w7 ⟨d7, q7, hd7, hq7, rfl, hb⟩; simp only [near_yes n2 hd7 hq7]; clear hd7 hq7; replace u0 := keep hb u0; replace u1 := keep hb u1; replace u2 := keep hb u2; replace u3 := keep hb u3; replace s0 := keep hb s0; replace s1 := keep hb s1; replace s2 := keep hb s2; replace s3 := keep hb s3; replace z0 := keep hb z0; replace z1 := keep hb z1; replace z2 := keep hb z2; replace z3 := keep hb z3; replace kp0 := keep hb kp0; replace kp1 := keep hb kp1; replace BB := bl_trans BB hb; clear hb; have tg2 := True.intro) | (have zn := tgB; clear zn tgB; go_at_call 13; (with_reducible refine (nearly_any m m2 m _ om _).mono ?_); rintro e w7 ⟨d7, q7, hd7, hq7, rfl, hb⟩; simp only [near_yes n1 hd7 hq7]; clear hd7 hq7; replace u0 := keep hb u0; replace u1 := keep hb u1; replace u2 := keep hb u2; replace u3 := keep hb u3; replace s0 := keep hb s0; replace s1 := keep hb s1; replace s2 := keep hb s2; replace s3 := keep hb s3; replace z0 := keep hb z0; replace z1 := keep hb z1; replace z2 := keep hb z2; replace z3 := keep hb z3; replace kp0 := keep hb kp0; replace kp1 := keep hb kp1; replace BB := bl_trans BB hb; clear hb; have tg1 := True.intro) | go_values | go_skip | go_guarded | go_step | go_upon | go_back | dsimp only)
                  go_ret
                  exact ⟨rfl, BB⟩
                · repeat (first | (have zn := tgA; clear zn tgA; go_at_call 11; (with_reducible refine (mAbout_any m j x y px py _).mono ?_); rintro e w6 ⟨r2, k2, hA2, rfl, hb⟩; have h2 := aba_more hm ox oy op oq wa hA2; rw [hfar] at h2; (try simp only [Bool.false_eq_true, Bool.true_eq_false, false_and, or_false, false_or, true_and, reduceCtorEq, eq_self] at h2); (first | subst h2 | (obtain ⟨rfl, hlt⟩ := h2)); replace u0 := keep hb u0; replace u1 := keep hb u1; replace u2 := keep hb u2; replace u3 := keep hb u3; replace s0 := keep hb s0; replace s1 := keep hb s1; replace s2 := keep hb s2; replace s3 := keep hb s3; replace z0 := keep hb z0; replace z1 := keep hb z1; replace z2 := keep hb z2; replace z3 := keep hb z3; replace kp0 := keep hb kp0; replace kp1 := keep hb kp1; replace BB := bl_trans BB hb; clear hb; have tgB := True.intro) | (go_at_call 11; (with_reducible refine (mAbout_any m j x y x y _).mono ?_); rintro e w5 ⟨r1, k1, hA1, rfl, hb⟩; obtain ⟨rfl, fa, wa, ea⟩ := aba_self hm ox oy hA1; replace u0 := keep hb u0; replace u1 := keep hb u1; replace u2 := keep hb u2; replace u3 := keep hb u3; replace s0 := keep hb s0; replace s1 := keep hb s1; replace s2 := keep hb s2; replace s3 := keep hb s3; replace z0 := keep hb z0; replace z1 := keep hb z1; replace z2 := keep hb z2; replace z3 := keep hb z3; replace kp0 := keep hb kp0; replace kp1 := keep hb kp1; replace BB := bl_trans BB hb; clear hb; have tgA := True.intro) | (go_at_call 12; (with_reducible refine (vWithin_any _ _ _ _).mono ?_); rintro e wz ⟨rfl, hb⟩; simp only [hfar]; replace u0 := keep hb u0; replace u1 := keep hb u1; replace u2 := keep hb u2; replace u3 := keep hb u3; replace s0 := keep hb s0; replace s1 := keep hb s1; replace s2 := keep hb s2; replace s3 := keep hb s3; replace z0 := keep hb z0; replace z1 := keep hb z1; replace z2 := keep hb z2; replace z3 := keep hb z3; replace kp0 := keep hb kp0; replace kp1 := keep hb kp1; replace BB := bl_trans BB hb; clear hb) | go_values | go_skip | go_guarded | go_step | go_upon | go_back | dsimp only)
                  go_ret
                  exact ⟨rfl, BB⟩
              · repeat (first | (have zn := tgA; clear zn tgA; go_at_call 11; (with_reducible refine (mAbout_any m j x y px py _).mono ?_); rintro e w6 ⟨r2, k2, hA2, rfl, hb⟩; have h2 := aba_more hm ox oy op oq wa hA2; rw [hfar] at h2; (try simp only [Bool.false_eq_true, Bool.true_eq_false, false_and, or_false, false_or, true_and, reduceCtorEq, eq_self] at h2); (first | subst h2 | (obtain ⟨rfl, hlt⟩ := h2)); replace u0 := keep hb u0; replace u1 := keep hb u1; replace u2 := keep hb u2; replace u3 := keep hb u3; replace s0 := keep hb s0; replace s1 := keep hb s1; replace s2 := keep hb s2; replace s3 := keep hb s3; replace z0 := keep hb z0; replace z1 := keep hb z1; replace z2 := keep hb z2; replace z3 := keep hb z3; replace kp0 := keep hb kp0; replace kp1 := keep hb kp1; replace BB := bl_trans BB hb; clear hb; have tgB := True.intro) | (go_at_call 11; (with_reducible refine (mAbout_any m j x y x y _).mono ?_); rintro e w5 ⟨r1, k1, hA1, rfl, hb⟩; obtain ⟨rfl, fa, wa, ea⟩ := aba_self hm ox oy hA1; replace u0 := keep hb u0; replace u1 := keep hb u1; replace u2 := keep hb u2; replace u3 := keep hb u3; replace s0 := keep hb s0; replace s1 := keep hb s1; replace s2 := keep hb s2; replace s3 := keep hb s3; replace z0 := keep hb z0; replace z1 := keep hb z1; replace z2 := keep hb z2; replace z3 := keep hb z3; replace kp0 := keep hb kp0; replace kp1 := keep hb kp1; replace BB := bl_trans BB hb; clear hb; have tgA := True.intro) | (go_at_call 12; (with_reducible refine (vWithin_any _ _ _ _).mono ?_); rintro e wz ⟨rfl, hb⟩; simp only [hfar]; replace u0 := keep hb u0; replace u1 := keep hb u1; replace u2 := keep hb u2; replace u3 := keep hb u3; replace s0 := keep hb s0; replace s1 := keep hb s1; replace s2 := keep hb s2; replace s3 := keep hb s3; replace z0 := keep hb z0; replace z1 := keep hb z1; replace z2 := keep hb z2; replace z3 := keep hb z3; replace kp0 := keep hb kp0; replace kp1 := keep hb kp1; replace BB := bl_trans BB hb; clear hb) | go_values | go_skip | go_guarded | go_step | go_upon | go_back | dsimp only)
                go_ret
                exact ⟨rfl, BB⟩
        · repeat (first | go_values | go_skip | go_guarded | go_step | go_upon | go_back | dsimp only)
          go_ret
          exact ⟨rfl, BB⟩
      · by_cases hall : allM ms js xs ys q
        · have hme := mE_yes (hall 0 hp)
          repeat (first | (go_at_call 10; (with_reducible refine (mChk_any _ _ _ _ _).mono ?_); rintro e w5 ⟨rfl, hb⟩; simp only [hme]; replace u0 := keep hb u0; replace u1 := keep hb u1; replace u2 := keep hb u2; replace u3 := keep hb u3; replace s0 := keep hb s0; replace s1 := keep hb s1; replace s2 := keep hb s2; replace s3 := keep hb s3; replace z0 := keep hb z0; replace z1 := keep hb z1; replace z2 := keep hb z2; replace z3 := keep hb z3; replace kp0 := keep hb kp0; replace kp1 := keep hb kp1; replace BB := bl_trans BB hb; clear hb) | go_values | go_skip | go_guarded | go_step | go_upon | go_back | dsimp only)
          go_ret
          exact ⟨rfl, BB⟩
        · obtain rfl := joinA_bad hp h64 (fun h => hall (allM_rev2 h)) hJ2
          cases hmb : mB (ms 0) (js 0) (xs 0) (ys 0)
          · have hme := mE_no hmb
            repeat (first | (go_at_call 10; (with_reducible refine (mChk_any _ _ _ _ _).mono ?_); rintro e w5 ⟨rfl, hb⟩; simp only [hme]; replace u0 := keep hb u0; replace u1 := keep hb u1; replace u2 := keep hb u2; replace u3 := keep hb u3; replace s0 := keep hb s0; replace s1 := keep hb s1; replace s2 := keep hb s2; replace s3 := keep hb s3; replace z0 := keep hb z0; replace z1 := keep hb z1; replace z2 := keep hb z2; replace z3 := keep hb z3; replace kp0 := keep hb kp0; replace kp1 := keep hb kp1; replace BB := bl_trans BB hb; clear hb) | go_values | go_skip | go_guarded | go_step | go_upon | go_back | dsimp only)
            go_ret
            exact ⟨rfl, BB⟩
          · have hme := mE_yes hmb
            repeat (first | (go_at_call 10; (with_reducible refine (mChk_any _ _ _ _ _).mono ?_); rintro e w5 ⟨rfl, hb⟩; simp only [hme]; replace u0 := keep hb u0; replace u1 := keep hb u1; replace u2 := keep hb u2; replace u3 := keep hb u3; replace s0 := keep hb s0; replace s1 := keep hb s1; replace s2 := keep hb s2; replace s3 := keep hb s3; replace z0 := keep hb z0; replace z1 := keep hb z1; replace z2 := keep hb z2; replace z3 := keep hb z3; replace kp0 := keep hb kp0; replace kp1 := keep hb kp1; replace BB := bl_trans BB hb; clear hb) | go_values | go_skip | go_guarded | go_step | go_upon | go_back | dsimp only)
            go_ret
            exact ⟨rfl, BB⟩
end Go.Proofs.Ytoofbfjlgablkaa
