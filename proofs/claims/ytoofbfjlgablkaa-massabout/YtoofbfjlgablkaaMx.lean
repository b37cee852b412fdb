/-
  What each function of package poly answers, and what the reference of its chapter answers: one contract a function, for every float: the answer stands in the relation of its formula to what was given; of the memory that was there nothing has turned.
-/
import Derived.Test.YtoofbfjlgablkaaVec
import Derived.Test.YtoofbfjlgablkaaMi
import Derived.Test.YtoofbfjlgablkaaOnc2
import Derived.Below
import Derived.WalkKit
import Derived.WalkLawsBesides
import Derived.WalkSpells
import Derived.ProofKit
import Derived.OpenShut
import Derived.Deep.RegionHeld3
namespace Go.Proofs.Ytoofbfjlgablkaa
open Go.ChangeShapes Go.WideShapes Go.ChangeAt Go.RowKit
set_option linter.unusedVariables false
set_option linter.unusedSimpArgs false

set_option maxRecDepth 100000 in
set_option maxHeartbeats 1000000 in
theorem rtold_any (ma ia cx cy : Nat) (ox : okK .f64 cx) (oy : okK .f64 cy) (w : World) : Calls Try.prog 30 #[.agg #[.float .f64 ma, .float .f64 ia, .float .f64 cx, .float .f64 cy]] w fun e w' => ∃ m j x y k, Told ma ia cx cy m j x y k ∧ e = .returned (.tuple #[.agg #[.float .f64 m, .float .f64 j, .float .f64 x, .float .f64 y], .int .i64 k]) ∧ Bel w w' := by
  cases h1 : mB ma ia cx cy
  · have e := mE_no h1
    go_enter Try.func30, Try.ntmps30
    go_wp2_with (first | (go_at_call 26; refine (rChk_any _ _ _ _ ox oy _).mono ?_; rintro e w' ⟨rfl, hb⟩; rw [e]; (first | have B := bl_trans B hb | have B := bl_trans (by repeat (first | exact B | apply bl_drewN)) hb | have B := bl_trans (by repeat (first | exact B | apply bl_drewN | apply bl_drew | apply bl_alloc | refine bl_set ?_ (by simp <;> omega))) hb | have B := hb); (try clear hc hf hz); obtain ⟨hc, hf⟩ := bcell B; have hz := B.size; (try simp at hz)))
    refine bodyPost_ret (v := .tuple #[.agg #[.float .f64 0, .float .f64 0, .float .f64 0, .float .f64 0], .int .i64 80]) (by simp [hc, results, Try.results30, go_sem] <;> (first | exact ⟨⟨rfl, rfl, rfl, rfl⟩, rfl⟩ | exact ⟨rfl, rfl, rfl, rfl, rfl⟩ | exact ⟨rfl, rfl⟩ | rfl)) rfl ⟨_, _, _, _, _, .inr ⟨h1, rfl, rfl, rfl, rfl, rfl⟩, rfl, ?_⟩
    repeat (first | exact bl_refl _ | assumption | apply bl_drewN | apply bl_drew | apply bl_alloc | refine bl_set ?_ (by simp <;> omega) | refine bl_trans ?_ (by assumption))
  · have e := mE_yes h1
    go_enter Try.func30, Try.ntmps30
    go_wp2_with (first | (go_at_call 26; refine (rChk_any _ _ _ _ ox oy _).mono ?_; rintro e w' ⟨rfl, hb⟩; rw [e]; (first | have B := bl_trans B hb | have B := bl_trans (by repeat (first | exact B | apply bl_drewN)) hb | have B := bl_trans (by repeat (first | exact B | apply bl_drewN | apply bl_drew | apply bl_alloc | refine bl_set ?_ (by simp <;> omega))) hb | have B := hb); (try clear hc hf hz); obtain ⟨hc, hf⟩ := bcell B; have hz := B.size; (try simp at hz)))
    refine bodyPost_ret (v := .tuple #[.agg #[.float .f64 ma, .float .f64 ia, .float .f64 cx, .float .f64 cy], .int .i64 0]) (by simp [hc, results, Try.results30, go_sem] <;> (first | exact ⟨⟨rfl, rfl, rfl, rfl⟩, rfl⟩ | exact ⟨rfl, rfl, rfl, rfl, rfl⟩ | exact ⟨rfl, rfl⟩ | rfl)) rfl ⟨_, _, _, _, _, .inl ⟨h1, rfl, rfl, rfl, rfl, rfl⟩, rfl, ?_⟩
    repeat (first | exact bl_refl _ | assumption | apply bl_drewN | apply bl_drew | apply bl_alloc | refine bl_set ?_ (by simp <;> omega) | refine bl_trans ?_ (by assumption))

theorem acc_more {k s t r : Nat} {f : Nat → Nat} (hk : 1 ≤ k) (h : accR (f 0) (fun q => f (q + 1)) (k - 1) s) (hr : resK .add .f64 s t r) : accR ((fun q => if q = k then t else f q) 0) (fun q => (fun q => if q = k then t else f q) (q + 1)) (k + 1 - 1) r := by
  have h1 := accR_succ (accR.eq (ys := fun q => if q + 1 = k then t else f (q + 1)) (fun i hi => by simp only [if_neg (show ¬ i + 1 = k by omega)]) h) (r := r) (by
    show resK .add .f64 s (if k - 1 + 1 = k then t else f (k - 1 + 1)) r
    rw [if_pos (show k - 1 + 1 = k by omega)]
    exact hr)
  rw [show k - 1 + 1 = k + 1 - 1 by omega] at h1
  simp only [if_neg (show ¬ 0 = k by omega)]
  exact h1
set_option maxRecDepth 100000 in
set_option maxHeartbeats 2000000 in
theorem rjoin_none (v : Option Addr) (cap : Nat) (ms js xs ys : Nat → Nat) (w : World) : Calls Try.prog 7 #[.slice v 0 cap] w fun e w' => ∃ m j x y f, JoinA ms js xs ys 0 AboutF m j x y f ∧ e = .returned (.tuple #[.agg #[.float .f64 m, .float .f64 j, .float .f64 x, .float .f64 y], .int .i64 f]) ∧ Bel w w' := by
  go_enter Try.func7, Try.ntmps7
  go_wp2
  go_loopw [4] (fun i' wr => i' = .int .i64 0 ∧ Bel w wr ∧ wr.cell? ⟨w.heap.size, 0, none⟩ = some (.float .f64 0) ∧ wr.cell? ⟨w.heap.size, 1, none⟩ = some (.float .f64 0) ∧ wr.cell? ⟨w.heap.size, 2, none⟩ = some (.float .f64 0) ∧ wr.cell? ⟨w.heap.size, 3, none⟩ = some (.float .f64 0)) (fun i' _ => 0)
  case atStart => exact ⟨rfl, bl_alloc (bl_refl w) _ _, by rw [World.cell?_alloc_new]; rfl, by rw [World.cell?_alloc_new]; rfl, by rw [World.cell?_alloc_new]; rfl, by rw [World.cell?_alloc_new]; rfl⟩
  case round =>
    obtain ⟨rfl, hB, z0, z1, z2, z3⟩ := hrel
    have fR : ∀ o, wr.frozen? ⟨w.heap.size, o, none⟩ = false := fun o => (hB.2 _).trans (fresh_frozen (Nat.le_refl _))
    go_wp2
    obtain ⟨R0, R1, R2, R3⟩ := set4_at (p := .float .f64 0) (q := .float .f64 0) (r := .float .f64 0) (s := .float .f64 0) z0 z1 z2 z3
    refine bodyPost_ret (v := .tuple #[.agg #[.float .f64 0, .float .f64 0, .float .f64 0, .float .f64 0], .int .i64 0]) (by simp [R0, R1, R2, R3, results, Try.results7, go_sem] <;> (first | exact ⟨⟨rfl, rfl, rfl, rfl⟩, rfl⟩ | exact ⟨rfl, rfl, rfl, rfl, rfl⟩ | exact ⟨rfl, rfl⟩ | rfl)) rfl ⟨_, _, _, _, _, .inr (.inr (.inl ⟨rfl, rfl, rfl, rfl, rfl, rfl⟩)), rfl, ?_⟩
    repeat (first | exact hB | refine bl_set ?_ (by simp <;> omega))
set_option maxRecDepth 100000 in
set_option maxHeartbeats 8000000 in
theorem rjoin_some (b off n cap : Nat) (ms js xs ys : Nat → Nat) (w : World) (hM : Ml w b off n ms js xs ys) (ok : ∀ q, q < n → okK .f64 (xs q) ∧ okK .f64 (ys q)) (hp : 0 < n) (hcap : n ≤ cap) (hL : n ≤ 10000000) : Calls Try.prog 7 #[.slice (some ⟨b, off, none⟩) n cap] w fun e w' => ∃ m j x y f, JoinA ms js xs ys n AboutF m j x y f ∧ e = .returned (.tuple #[.agg #[.float .f64 m, .float .f64 j, .float .f64 x, .float .f64 y], .int .i64 f]) ∧ Bel w w' := by
  have c1 := cmp_eq .f64
  have q1 := run_quo Try.prog
  have q2 := run_mul Try.prog
  have lb := hM.lt hp
  by_cases hbig : 16384 < n
  · have g : ((n : Int) > 16384) := by omega
    go_enter Try.func7, Try.ntmps7
    go_wp2
    refine bodyPost_ret (v := .tuple #[.agg #[.float .f64 0, .float .f64 0, .float .f64 0, .float .f64 0], .int .i64 4]) (by simp [results, Try.results7, go_sem] <;> (first | exact ⟨⟨rfl, rfl, rfl, rfl⟩, rfl⟩ | exact ⟨rfl, rfl, rfl, rfl, rfl⟩ | exact ⟨rfl, rfl⟩ | rfl)) rfl ⟨_, _, _, _, _, .inl ⟨hbig, rfl, rfl, rfl, rfl, rfl⟩, rfl, ?_⟩
    repeat (first | exact bl_refl _ | assumption | apply bl_drewN | apply bl_drew | apply bl_alloc | refine bl_set ?_ (by simp <;> omega) | refine bl_trans ?_ (by assumption))
  · have g : ¬ ((n : Int) > 16384) := by omega
    go_enter Try.func7, Try.ntmps7
    go_wp2
    go_loopw [4] (fun i' wr => ∃ k : Nat, k ≤ n ∧ i' = .int .i64 k ∧ Bel w wr ∧ (∀ q, q < k → mB (ms q) (js q) (xs q) (ys q) = true) ∧ wr.cell? ⟨w.heap.size, 0, none⟩ = some (.float .f64 0) ∧ wr.cell? ⟨w.heap.size, 1, none⟩ = some (.float .f64 0) ∧ wr.cell? ⟨w.heap.size, 2, none⟩ = some (.float .f64 0) ∧ wr.cell? ⟨w.heap.size, 3, none⟩ = some (.float .f64 0)) (fun i' _ => n - (intOf i').toNat)
    case atStart => exact ⟨0, by omega, rfl, bl_alloc (bl_refl w) _ _, fun q hq => by omega, by rw [World.cell?_alloc_new]; rfl, by rw [World.cell?_alloc_new]; rfl, by rw [World.cell?_alloc_new]; rfl, by rw [World.cell?_alloc_new]; rfl⟩
    case round =>
      obtain ⟨k, hk, rfl, hB, hall, z0, z1, z2, z3⟩ := hrel
      have hbb : b < wr.heap.size := Nat.lt_of_lt_of_le lb hB.size
      have lH := World.block_lt_of_cell? _ _ z0
      simp only at lH
      by_cases hlt : k < n
      · have k1 : (k : Int) < (n : Int) := by omega
        obtain ⟨m0, m1, m2, m3⟩ := (hM.bel hB) k hlt
        obtain ⟨o1, o2⟩ := ok k hlt
        cases hm : mB (ms k) (js k) (xs k) (ys k)
        · have e := mE_no hm
          go_wp2_with (first | (go_at_call 26; refine (rChk_any _ _ _ _ o1 o2 _).mono ?_; rintro e w_2 ⟨rfl, hb⟩; rw [e]; have B2 := bl_trans hB hb; have r0 := keep hb z0; have r1 := keep hb z1; have r2 := keep hb z2; have r3 := keep hb z3; have fR : ∀ o, w_2.frozen? ⟨w.heap.size, o, none⟩ = false := fun o => (B2.2 _).trans (fresh_frozen (Nat.le_refl _))))
          obtain ⟨R0, R1, R2, R3⟩ := set4_at (p := .float .f64 0) (q := .float .f64 0) (r := .float .f64 0) (s := .float .f64 0) r0 r1 r2 r3
          refine bodyPost_ret (v := .tuple #[.agg #[.float .f64 0, .float .f64 0, .float .f64 0, .float .f64 0], .int .i64 80]) (by simp [R0, R1, R2, R3, results, Try.results7, go_sem] <;> (first | exact ⟨⟨rfl, rfl, rfl, rfl⟩, rfl⟩ | exact ⟨rfl, rfl, rfl, rfl, rfl⟩ | exact ⟨rfl, rfl⟩ | rfl)) rfl ⟨_, _, _, _, _, .inr (.inl ⟨by omega, (fun h => by rw [h k hlt] at hm; cases hm), rfl, rfl, rfl, rfl, rfl⟩), rfl, ?_⟩
          repeat (first | exact B2 | refine bl_set ?_ (by simp <;> omega))
        · have e := mE_yes hm
          go_wp2_with (first | (go_at_call 26; refine (rChk_any _ _ _ _ o1 o2 _).mono ?_; rintro e w_2 ⟨rfl, hb⟩; rw [e]; have B2 := bl_trans hB hb; have r0 := keep hb z0; have r1 := keep hb z1; have r2 := keep hb z2; have r3 := keep hb z3))
          refine ⟨⟨k + 1, by omega, by go_num, B2, fun q hq => ?_, r0, r1, r2, r3⟩, by simp [intOf]; omega⟩
          by_cases e : q = k
          · subst e; exact hm
          · exact hall q (by omega)
      · have hkn : n = k := by omega
        subst hkn
        have hM2 := hM.bel hB
        have fR : ∀ o, wr.frozen? ⟨w.heap.size, o, none⟩ = false := fun o => (hB.2 _).trans (fresh_frozen (Nat.le_refl _))
        obtain ⟨m0, m1, m2, m3⟩ := hM2 0 hp
        simp only [Nat.zero_mul, Nat.add_zero] at m0 m1 m2 m3
        have h0' : ¬ (n : Int) = 0 := by omega
        by_cases h1 : n = 1
        · subst h1
          go_wp2
          obtain ⟨R0, R1, R2, R3⟩ := set4_at (p := .float .f64 (ms 0)) (q := .float .f64 (js 0)) (r := .float .f64 (xs 0)) (s := .float .f64 (ys 0)) z0 z1 z2 z3
          replace R0 := up_alloc (o := .cells #[.float .f64 (ms 0), .float .f64 (js 0), .float .f64 (xs 0), .float .f64 (ys 0)] 28) R0
          replace R1 := up_alloc (o := .cells #[.float .f64 (ms 0), .float .f64 (js 0), .float .f64 (xs 0), .float .f64 (ys 0)] 28) R1
          replace R2 := up_alloc (o := .cells #[.float .f64 (ms 0), .float .f64 (js 0), .float .f64 (xs 0), .float .f64 (ys 0)] 28) R2
          replace R3 := up_alloc (o := .cells #[.float .f64 (ms 0), .float .f64 (js 0), .float .f64 (xs 0), .float .f64 (ys 0)] 28) R3
          refine bodyPost_ret (v := .tuple #[.agg #[.float .f64 (ms 0), .float .f64 (js 0), .float .f64 (xs 0), .float .f64 (ys 0)], .int .i64 0]) (by simp [R0, R1, R2, R3, results, Try.results7, go_sem] <;> (first | exact ⟨⟨rfl, rfl, rfl, rfl⟩, rfl⟩ | exact ⟨rfl, rfl, rfl, rfl, rfl⟩ | exact ⟨rfl, rfl⟩ | rfl)) rfl ⟨_, _, _, _, _, .inr (.inr (.inr (.inl ⟨rfl, hall, rfl, rfl, rfl, rfl, rfl⟩))), rfl, ?_⟩
          repeat (first | exact hB | apply bl_alloc | refine bl_set ?_ (by simp <;> omega))
        · have h1' : ¬ (n : Int) = 1 := by omega
          go_wp2
          have A1 := bl_alloc (bl_refl wr) #[.float .f64 (ms 0), .float .f64 (js 0), .float .f64 (xs 0), .float .f64 (ys 0)] 28
          have cc0 : (wr.alloc (.cells #[.float .f64 (ms 0), .float .f64 (js 0), .float .f64 (xs 0), .float .f64 (ys 0)] 28)).cell? ⟨wr.heap.size, 0, none⟩ = some (.float .f64 (ms 0)) := by rw [World.cell?_alloc_new]; rfl
          have cc1 : (wr.alloc (.cells #[.float .f64 (ms 0), .float .f64 (js 0), .float .f64 (xs 0), .float .f64 (ys 0)] 28)).cell? ⟨wr.heap.size, 1, none⟩ = some (.float .f64 (js 0)) := by rw [World.cell?_alloc_new]; rfl
          have cc2 : (wr.alloc (.cells #[.float .f64 (ms 0), .float .f64 (js 0), .float .f64 (xs 0), .float .f64 (ys 0)] 28)).cell? ⟨wr.heap.size, 2, none⟩ = some (.float .f64 (xs 0)) := by rw [World.cell?_alloc_new]; rfl
          have cc3 : (wr.alloc (.cells #[.float .f64 (ms 0), .float .f64 (js 0), .float .f64 (xs 0), .float .f64 (ys 0)] 28)).cell? ⟨wr.heap.size, 3, none⟩ = some (.float .f64 (ys 0)) := by rw [World.cell?_alloc_new]; rfl
          replace z0 := keep A1 z0
          replace z1 := keep A1 z1
          replace z2 := keep A1 z2
          replace z3 := keep A1 z3
          have B1 := bl_trans hB A1
          have hc0 : w.heap.size < wr.heap.size := lH
          have hcb : b < wr.heap.size := hbb
          obtain ⟨c, hcW⟩ : ∃ c, c = wr.heap.size := ⟨_, rfl⟩
          rw [← hcW] at hc0 hcb cc0 cc1 cc2 cc3
          simp only [← hcW]
          have h1H := hide h1
          clear h0' h1' h1
          have hcH := hide hcW
          have hB0 := hide hB
          clear hcW hB hM2 m0 m1 m2 m3 hbb lH fR
          have n0 : w.heap.size ≤ c := Nat.le_of_lt hc0
          have n1 : w.heap.size ≠ c := by omega
          have n2 : b ≠ c := by omega
          have n3 : b < w.heap.size := lb
          generalize ((n : Int) == 0) = bz0
          generalize ((n : Int) == 1) = bz1
          go_loopw [6, 7, 8] (fun xv yv i' wr => ∃ (k M sx sy : Nat) (tx ty : Nat → Nat), 1 ≤ k ∧ k ≤ n ∧ xv = .float .f64 sx ∧ yv = .float .f64 sy ∧ i' = .int .i64 k ∧ Bel w wr ∧ accR (ms 0) (fun q => ms (q + 1)) (k - 1) M ∧ (∀ p, p < k → resK .mul .f64 (ms p) (xs p) (tx p)) ∧ accR (tx 0) (fun q => tx (q + 1)) (k - 1) sx ∧ (∀ p, p < k → resK .mul .f64 (ms p) (ys p) (ty p)) ∧ accR (ty 0) (fun q => ty (q + 1)) (k - 1) sy ∧ wr.cell? ⟨c, 0, none⟩ = some (.float .f64 M) ∧ wr.cell? ⟨c, 1, none⟩ = some (.float .f64 (js 0)) ∧ wr.cell? ⟨c, 2, none⟩ = some (.float .f64 (xs 0)) ∧ wr.cell? ⟨c, 3, none⟩ = some (.float .f64 (ys 0)) ∧ wr.cell? ⟨w.heap.size, 0, none⟩ = some (.float .f64 0) ∧ wr.cell? ⟨w.heap.size, 1, none⟩ = some (.float .f64 0) ∧ wr.cell? ⟨w.heap.size, 2, none⟩ = some (.float .f64 0) ∧ wr.cell? ⟨w.heap.size, 3, none⟩ = some (.float .f64 0)) (fun _ _ i' _ => n - (intOf i').toNat)
          case atStart =>
            refine ⟨1, ms 0, _, _, fun _ => _, fun _ => _, by omega, by omega, rfl, rfl, rfl, by repeat (first | exact B1 | apply bl_drewN), accR_zero _ _, fun p hp => ?_, accR_zero _ _, fun p hp => ?_, accR_zero _ _, cc0, cc1, cc2, cc3, z0, z1, z2, z3⟩
            · rw [show p = 0 by omega]; exact fv_res .mul .f64 _ _ _
            · rw [show p = 0 by omega]; exact fv_res .mul .f64 _ _ _
          case round =>
            clear cc0 cc1 cc2 cc3 z0 z1 z2 z3 B1 A1
            rename_i wq
            obtain ⟨k, M, sx, sy, tx, ty, hk1, hkn', rfl, rfl, rfl, hB, hMa, hTx, hXa, hTy, hYa, c0, c1', c2, c3, z0, z1, z2, z3⟩ := hrel
            have hMr := hM.bel hB
            have fC : ∀ o, wr.frozen? ⟨c, o, none⟩ = false := fun o => (hB.2 _).trans (fresh_frozen n0)
            by_cases hlt : k < n
            · have k1 : (k : Int) < (n : Int) := by omega
              obtain ⟨m0, m1, m2, m3⟩ := hMr k hlt
              have c1q := c1
              have hMaH := hide hMa
              have hXaH := hide hXa
              have hYaH := hide hYa
              clear hMa hXa hYa
              go_wp2
              refine wp_region_ret2 10 9 7 rfl (fun i v => match i with | 0 => v = .pointer (some ⟨c, 0, none⟩) | 1 => v = .float .f64 M | 2 => v = .slice (some ⟨b, off, none⟩) n cap | 3 => v = .int .i64 (k : Int) | 4 => v = .pointer (some ⟨b, off + k * 4, none⟩) | 5 => v = .pointer (some ⟨b, off + k * 4, none⟩) | 6 => v = .float .f64 (ms k) | 7 => ∃ r, resK .add .f64 M (ms k) r ∧ v = .float .f64 r | 8 => v = .pointer (some ⟨c, 0, none⟩) | _ => False) (put1 c 0) ?A_w18 (by kernel_rfl) (by kernel_rfl) (by kernel_rfl) (by decide) (by decide) ?hA_w18 ?hst_w18 ?hq_w18 ?ht_w18
              case hA_w18 =>
                intro s
                simp only [putL, dstO, Act.put, List.getElem?_toArray, List.getElem?_cons_zero, List.getElem?_cons_succ, Option.bind_some, List.setIfInBounds_toArray, List.set_cons_zero, List.set_cons_succ, if_true]
                all_goals exact rfl
              case hst_w18 =>
                intro o ho s hs W hb K hK
                cases ho
                have v0 := keep hb c0; have v1 := fun o => (hb.2 ⟨c, o, none⟩).trans (fC o)
                have e8 : s 8 = _ := hs 8 (by decide) (by kernel_rfl)
                obtain ⟨r, hA0, e7⟩ := hs 7 (by decide) (by kernel_rfl)
                simp only [e8, e7] at hK ⊢
                clear hs
                go_simp
                exact hK.out
              case hq_w18 =>
                intro i o hi hne ho s hs W hb hbf K hK
                have q2 := run_add Try.prog; have u0 := once_keep1 hb m0 (.inl (by simp only; omega)); have lbW := World.block_lt_of_cell? _ _ u0; simp only at lbW
                rcases (show i = 0 ∨ i = 1 ∨ i = 2 ∨ i = 3 ∨ i = 4 ∨ i = 5 ∨ i = 6 ∨ i = 7 ∨ i = 8 ∨ i = 9 by omega) with rfl | rfl | rfl | rfl | rfl | rfl | rfl | rfl | rfl | rfl
                · cases ho
                  simp only [Act.put, List.setIfInBounds_toArray, List.set_cons_zero, List.set_cons_succ] at hK
                  clear hs hne
                  go_simp
                  all_goals (try go_wp2_with (first | fail))
                  all_goals first | exact hK.out _ _ ⟨_, fv_res .add .f64 _ _ _, rfl⟩ (by first | exact bl_refl _ | exact bl_drewN (bl_refl _) _) | exact hK.out _ _ rfl (bl_refl _) | exact hK.out _ _ rfl (by assumption) | exact hK.out _ _ (by assumption) (by assumption)
                · cases ho
                  have hB2 := hbf (by kernel_rfl); have v0 := keep hB2 c0
                  have e0 : s 0 = _ := hs 0 (by decide) (by decide) (by kernel_rfl)
                  simp only [e0] at hK ⊢
                  simp only [Act.put, List.setIfInBounds_toArray, List.set_cons_zero, List.set_cons_succ] at hK
                  clear hs hne
                  go_simp
                  all_goals (try go_wp2_with (first | fail))
                  all_goals first | exact hK.out _ _ ⟨_, fv_res .add .f64 _ _ _, rfl⟩ (by first | exact bl_refl _ | exact bl_drewN (bl_refl _) _) | exact hK.out _ _ rfl (bl_refl _) | exact hK.out _ _ rfl (by assumption) | exact hK.out _ _ (by assumption) (by assumption)
                · cases ho
                  simp only [Act.put, List.setIfInBounds_toArray, List.set_cons_zero, List.set_cons_succ] at hK
                  clear hs hne
                  go_simp
                  all_goals (try go_wp2_with (first | fail))
                  all_goals first | exact hK.out _ _ ⟨_, fv_res .add .f64 _ _ _, rfl⟩ (by first | exact bl_refl _ | exact bl_drewN (bl_refl _) _) | exact hK.out _ _ rfl (bl_refl _) | exact hK.out _ _ rfl (by assumption) | exact hK.out _ _ (by assumption) (by assumption)
                · cases ho
                  simp only [Act.put, List.setIfInBounds_toArray, List.set_cons_zero, List.set_cons_succ] at hK
                  clear hs hne
                  go_simp
                  all_goals (try go_wp2_with (first | fail))
                  all_goals first | exact hK.out _ _ ⟨_, fv_res .add .f64 _ _ _, rfl⟩ (by first | exact bl_refl _ | exact bl_drewN (bl_refl _) _) | exact hK.out _ _ rfl (bl_refl _) | exact hK.out _ _ rfl (by assumption) | exact hK.out _ _ (by assumption) (by assumption)
                · cases ho
                  have e2 : s 2 = _ := hs 2 (by decide) (by decide) (by kernel_rfl)
                  have e3 : s 3 = _ := hs 3 (by decide) (by decide) (by kernel_rfl)
                  simp only [e2, e3] at hK ⊢
                  simp only [Act.put, List.setIfInBounds_toArray, List.set_cons_zero, List.set_cons_succ] at hK
                  clear hs hne
                  go_simp
                  all_goals (try go_wp2_with (first | fail))
                  all_goals first | exact hK.out _ _ ⟨_, fv_res .add .f64 _ _ _, rfl⟩ (by first | exact bl_refl _ | exact bl_drewN (bl_refl _) _) | exact hK.out _ _ rfl (bl_refl _) | exact hK.out _ _ rfl (by assumption) | exact hK.out _ _ (by assumption) (by assumption)
                · cases ho
                  have e4 : s 4 = _ := hs 4 (by decide) (by decide) (by kernel_rfl)
                  simp only [e4] at hK ⊢
                  simp only [Act.put, List.setIfInBounds_toArray, List.set_cons_zero, List.set_cons_succ] at hK
                  clear hs hne
                  go_simp
                  all_goals (try go_wp2_with (first | fail))
                  all_goals first | exact hK.out _ _ ⟨_, fv_res .add .f64 _ _ _, rfl⟩ (by first | exact bl_refl _ | exact bl_drewN (bl_refl _) _) | exact hK.out _ _ rfl (bl_refl _) | exact hK.out _ _ rfl (by assumption) | exact hK.out _ _ (by assumption) (by assumption)
                · cases ho
                  have e5 : s 5 = _ := hs 5 (by decide) (by decide) (by kernel_rfl)
                  simp only [e5] at hK ⊢
                  simp only [Act.put, List.setIfInBounds_toArray, List.set_cons_zero, List.set_cons_succ] at hK
                  clear hs hne
                  go_simp
                  all_goals (try go_wp2_with (first | fail))
                  all_goals first | exact hK.out _ _ ⟨_, fv_res .add .f64 _ _ _, rfl⟩ (by first | exact bl_refl _ | exact bl_drewN (bl_refl _) _) | exact hK.out _ _ rfl (bl_refl _) | exact hK.out _ _ rfl (by assumption) | exact hK.out _ _ (by assumption) (by assumption)
                · cases ho
                  have e1 : s 1 = _ := hs 1 (by decide) (by decide) (by kernel_rfl)
                  have e6 : s 6 = _ := hs 6 (by decide) (by decide) (by kernel_rfl)
                  simp only [e1, e6] at hK ⊢
                  simp only [Act.put, List.setIfInBounds_toArray, List.set_cons_zero, List.set_cons_succ] at hK
                  clear hs hne
                  go_simp
                  all_goals (try go_wp2_with (first | fail))
                  all_goals first | exact hK.out _ _ ⟨_, fv_res .add .f64 _ _ _, rfl⟩ (by first | exact bl_refl _ | exact bl_drewN (bl_refl _) _) | exact hK.out _ _ rfl (bl_refl _) | exact hK.out _ _ rfl (by assumption) | exact hK.out _ _ (by assumption) (by assumption)
                · cases ho
                  simp only [Act.put, List.setIfInBounds_toArray, List.set_cons_zero, List.set_cons_succ] at hK
                  clear hs hne
                  go_simp
                  all_goals (try go_wp2_with (first | fail))
                  all_goals first | exact hK.out _ _ ⟨_, fv_res .add .f64 _ _ _, rfl⟩ (by first | exact bl_refl _ | exact bl_drewN (bl_refl _) _) | exact hK.out _ _ rfl (bl_refl _) | exact hK.out _ _ rfl (by assumption) | exact hK.out _ _ (by assumption) (by assumption)
                · exact absurd rfl hne
              case ht_w18 =>
                intro s hs W0 W hb0 hb
                have e0 : s 0 = _ := hs 0 (by decide) (by decide)
                have e1 : s 1 = _ := hs 1 (by decide) (by decide)
                have e2 : s 2 = _ := hs 2 (by decide) (by decide)
                have e3 : s 3 = _ := hs 3 (by decide) (by decide)
                have e4 : s 4 = _ := hs 4 (by decide) (by decide)
                have e5 : s 5 = _ := hs 5 (by decide) (by decide)
                have e6 : s 6 = _ := hs 6 (by decide) (by decide)
                obtain ⟨Mr, hMr, e7⟩ := hs 7 (by decide) (by decide)
                have e8 : s 8 = _ := hs 8 (by decide) (by decide)
                simp only [e0, e1, e2, e3, e4, e5, e6, e7, e8]
                rw [e7] at hb
                clear hs e0 e1 e2 e3 e4 e5 e6 e7 e8
                have BW3 := bl_trans (put1_bel (bl_trans hB hb0) (by omega)) hb
                have m0 := keep hb ((put1_far (.inl (by simp only; omega))).trans (keep hb0 m0))
                have m1 := keep hb ((put1_far (.inl (by simp only; omega))).trans (keep hb0 m1))
                have m2 := keep hb ((put1_far (.inl (by simp only; omega))).trans (keep hb0 m2))
                have m3 := keep hb ((put1_far (.inl (by simp only; omega))).trans (keep hb0 m3))
                have d0 : W.cell? ⟨c, 0, none⟩ = some (.float .f64 Mr) := keep hb (World.cell?_setCell_same _ _ _ (keep hb0 c0))
                have d1 := keep hb ((put1_far (.inr (by simp only; omega))).trans (keep hb0 c1'))
                have d2 := keep hb ((put1_far (.inr (by simp only; omega))).trans (keep hb0 c2))
                have d3 := keep hb ((put1_far (.inr (by simp only; omega))).trans (keep hb0 c3))
                have p0 := keep hb ((put1_far (.inl (by simp only; omega))).trans (keep hb0 z0))
                have p1 := keep hb ((put1_far (.inl (by simp only; omega))).trans (keep hb0 z1))
                have p2 := keep hb ((put1_far (.inl (by simp only; omega))).trans (keep hb0 z2))
                have p3 := keep hb ((put1_far (.inl (by simp only; omega))).trans (keep hb0 z3))
                clear hb hb0 c0 c1' c2 c3 z0 z1 z2 z3
                go_wp2
                refine wp_region_multiA 14 (fun i v => match i with | 0 => v = .float .f64 sx | 1 => v = .slice (some ⟨b, off, none⟩) n cap | 2 => v = .int .i64 (k : Int) | 3 => v = .pointer (some ⟨b, off + k * 4, none⟩) | 4 => v = .pointer (some ⟨b, off + k * 4, none⟩) | 5 => v = .float .f64 (ms k) | 6 => v = .slice (some ⟨b, off, none⟩) n cap | 7 => v = .int .i64 (k : Int) | 8 => v = .pointer (some ⟨b, off + k * 4, none⟩) | 9 => v = .pointer (some ⟨b, off + k * 4 + 2, none⟩) | 10 => v = .pointer (some ⟨b, off + k * 4 + 2, none⟩) | 11 => v = .float .f64 (xs k) | 12 => ∃ t, resK .mul .f64 (ms k) (xs k) t ∧ v = .float .f64 t | 13 => ∃ t r, resK .mul .f64 (ms k) (xs k) t ∧ resK .add .f64 sx t r ∧ v = .float .f64 r | _ => False) (fun i => match i with  | _ => none) ?A_w19 (by kernel_rfl) (by kernel_rfl) ?hA_w19 ?ha_w19 ?hq_w19 [14] rfl ?ht_w19
                case hA_w19 =>
                  intro s
                  simp only [putL, dstO, Act.put, List.getElem?_toArray, List.getElem?_cons_zero, List.getElem?_cons_succ, Option.bind_some, List.setIfInBounds_toArray, List.set_cons_zero, List.set_cons_succ, if_true]
                  all_goals exact rfl
                case ha_w19 =>
                  intro i o ob hi ho hal
                  rcases (show i = 0 ∨ i = 1 ∨ i = 2 ∨ i = 3 ∨ i = 4 ∨ i = 5 ∨ i = 6 ∨ i = 7 ∨ i = 8 ∨ i = 9 ∨ i = 10 ∨ i = 11 ∨ i = 12 ∨ i = 13 by omega) with rfl | rfl | rfl | rfl | rfl | rfl | rfl | rfl | rfl | rfl | rfl | rfl | rfl | rfl
                  · cases hal
                  · cases hal
                  · cases hal
                  · cases hal
                  · cases hal
                  · cases hal
                  · cases hal
                  · cases hal
                  · cases hal
                  · cases hal
                  · cases hal
                  · cases hal
                  · cases hal
                  · cases hal
                case hq_w19 =>
                  intro i o hi ho hal s hs W hb K hK
                  have q1 := run_mul Try.prog; have q2 := run_add Try.prog; have u0 := keep hb m0; have u1 := keep hb m1; have u2 := keep hb m2; have u3 := keep hb m3; have lbW := World.block_lt_of_cell? _ _ u0; simp only at lbW
                  rcases (show i = 0 ∨ i = 1 ∨ i = 2 ∨ i = 3 ∨ i = 4 ∨ i = 5 ∨ i = 6 ∨ i = 7 ∨ i = 8 ∨ i = 9 ∨ i = 10 ∨ i = 11 ∨ i = 12 ∨ i = 13 by omega) with rfl | rfl | rfl | rfl | rfl | rfl | rfl | rfl | rfl | rfl | rfl | rfl | rfl | rfl
                  · cases ho
                    simp only [Act.put, List.setIfInBounds_toArray, List.set_cons_zero, List.set_cons_succ] at hK
                    clear hs
                    go_simp
                    all_goals (try go_wp2_with (first | fail))
                    all_goals first | exact hK.out _ _ ⟨_, fv_res .mul .f64 _ _ _, rfl⟩ (by first | exact bl_refl _ | exact bl_drewN (bl_refl _) _) | exact hK.out _ _ ⟨_, _, hM0, fv_res .add .f64 _ _ _, rfl⟩ (by first | exact bl_refl _ | exact bl_drewN (bl_refl _) _) | exact hK.out _ _ ⟨_, _, hM0, hA0, rfl⟩ (bl_refl _) | exact hK.out _ _ rfl (bl_refl _) | exact hK.out _ _ rfl (by assumption) | exact hK.out _ _ (by assumption) (by assumption)
                  · cases ho
                    simp only [Act.put, List.setIfInBounds_toArray, List.set_cons_zero, List.set_cons_succ] at hK
                    clear hs
                    go_simp
                    all_goals (try go_wp2_with (first | fail))
                    all_goals first | exact hK.out _ _ ⟨_, fv_res .mul .f64 _ _ _, rfl⟩ (by first | exact bl_refl _ | exact bl_drewN (bl_refl _) _) | exact hK.out _ _ ⟨_, _, hM0, fv_res .add .f64 _ _ _, rfl⟩ (by first | exact bl_refl _ | exact bl_drewN (bl_refl _) _) | exact hK.out _ _ ⟨_, _, hM0, hA0, rfl⟩ (bl_refl _) | exact hK.out _ _ rfl (bl_refl _) | exact hK.out _ _ rfl (by assumption) | exact hK.out _ _ (by assumption) (by assumption)
                  · cases ho
                    simp only [Act.put, List.setIfInBounds_toArray, List.set_cons_zero, List.set_cons_succ] at hK
                    clear hs
                    go_simp
                    all_goals (try go_wp2_with (first | fail))
                    all_goals first | exact hK.out _ _ ⟨_, fv_res .mul .f64 _ _ _, rfl⟩ (by first | exact bl_refl _ | exact bl_drewN (bl_refl _) _) | exact hK.out _ _ ⟨_, _, hM0, fv_res .add .f64 _ _ _, rfl⟩ (by first | exact bl_refl _ | exact bl_drewN (bl_refl _) _) | exact hK.out _ _ ⟨_, _, hM0, hA0, rfl⟩ (bl_refl _) | exact hK.out _ _ rfl (bl_refl _) | exact hK.out _ _ rfl (by assumption) | exact hK.out _ _ (by assumption) (by assumption)
                  · cases ho
                    have e1 : s 1 = _ := hs 1 (by decide) (by kernel_rfl)
                    have e2 : s 2 = _ := hs 2 (by decide) (by kernel_rfl)
                    simp only [e1, e2] at hK ⊢
                    simp only [Act.put, List.setIfInBounds_toArray, List.set_cons_zero, List.set_cons_succ] at hK
                    clear hs
                    go_simp
                    all_goals (try go_wp2_with (first | fail))
                    all_goals first | exact hK.out _ _ ⟨_, fv_res .mul .f64 _ _ _, rfl⟩ (by first | exact bl_refl _ | exact bl_drewN (bl_refl _) _) | exact hK.out _ _ ⟨_, _, hM0, fv_res .add .f64 _ _ _, rfl⟩ (by first | exact bl_refl _ | exact bl_drewN (bl_refl _) _) | exact hK.out _ _ ⟨_, _, hM0, hA0, rfl⟩ (bl_refl _) | exact hK.out _ _ rfl (bl_refl _) | exact hK.out _ _ rfl (by assumption) | exact hK.out _ _ (by assumption) (by assumption)
                  · cases ho
                    have e3 : s 3 = _ := hs 3 (by decide) (by kernel_rfl)
                    simp only [e3] at hK ⊢
                    simp only [Act.put, List.setIfInBounds_toArray, List.set_cons_zero, List.set_cons_succ] at hK
                    clear hs
                    go_simp
                    all_goals (try go_wp2_with (first | fail))
                    all_goals first | exact hK.out _ _ ⟨_, fv_res .mul .f64 _ _ _, rfl⟩ (by first | exact bl_refl _ | exact bl_drewN (bl_refl _) _) | exact hK.out _ _ ⟨_, _, hM0, fv_res .add .f64 _ _ _, rfl⟩ (by first | exact bl_refl _ | exact bl_drewN (bl_refl _) _) | exact hK.out _ _ ⟨_, _, hM0, hA0, rfl⟩ (bl_refl _) | exact hK.out _ _ rfl (bl_refl _) | exact hK.out _ _ rfl (by assumption) | exact hK.out _ _ (by assumption) (by assumption)
                  · cases ho
                    have e4 : s 4 = _ := hs 4 (by decide) (by kernel_rfl)
                    simp only [e4] at hK ⊢
                    simp only [Act.put, List.setIfInBounds_toArray, List.set_cons_zero, List.set_cons_succ] at hK
                    clear hs
                    go_simp
                    all_goals (try go_wp2_with (first | fail))
                    all_goals first | exact hK.out _ _ ⟨_, fv_res .mul .f64 _ _ _, rfl⟩ (by first | exact bl_refl _ | exact bl_drewN (bl_refl _) _) | exact hK.out _ _ ⟨_, _, hM0, fv_res .add .f64 _ _ _, rfl⟩ (by first | exact bl_refl _ | exact bl_drewN (bl_refl _) _) | exact hK.out _ _ ⟨_, _, hM0, hA0, rfl⟩ (bl_refl _) | exact hK.out _ _ rfl (bl_refl _) | exact hK.out _ _ rfl (by assumption) | exact hK.out _ _ (by assumption) (by assumption)
                  · cases ho
                    simp only [Act.put, List.setIfInBounds_toArray, List.set_cons_zero, List.set_cons_succ] at hK
                    clear hs
                    go_simp
                    all_goals (try go_wp2_with (first | fail))
                    all_goals first | exact hK.out _ _ ⟨_, fv_res .mul .f64 _ _ _, rfl⟩ (by first | exact bl_refl _ | exact bl_drewN (bl_refl _) _) | exact hK.out _ _ ⟨_, _, hM0, fv_res .add .f64 _ _ _, rfl⟩ (by first | exact bl_refl _ | exact bl_drewN (bl_refl _) _) | exact hK.out _ _ ⟨_, _, hM0, hA0, rfl⟩ (bl_refl _) | exact hK.out _ _ rfl (bl_refl _) | exact hK.out _ _ rfl (by assumption) | exact hK.out _ _ (by assumption) (by assumption)
                  · cases ho
                    simp only [Act.put, List.setIfInBounds_toArray, List.set_cons_zero, List.set_cons_succ] at hK
                    clear hs
                    go_simp
                    all_goals (try go_wp2_with (first | fail))
                    all_goals first | exact hK.out _ _ ⟨_, fv_res .mul .f64 _ _ _, rfl⟩ (by first | exact bl_refl _ | exact bl_drewN (bl_refl _) _) | exact hK.out _ _ ⟨_, _, hM0, fv_res .add .f64 _ _ _, rfl⟩ (by first | exact bl_refl _ | exact bl_drewN (bl_refl _) _) | exact hK.out _ _ ⟨_, _, hM0, hA0, rfl⟩ (bl_refl _) | exact hK.out _ _ rfl (bl_refl _) | exact hK.out _ _ rfl (by assumption) | exact hK.out _ _ (by assumption) (by assumption)
                  · cases ho
                    have e6 : s 6 = _ := hs 6 (by decide) (by kernel_rfl)
                    have e7 : s 7 = _ := hs 7 (by decide) (by kernel_rfl)
                    simp only [e6, e7] at hK ⊢
                    simp only [Act.put, List.setIfInBounds_toArray, List.set_cons_zero, List.set_cons_succ] at hK
                    clear hs
                    go_simp
                    all_goals (try go_wp2_with (first | fail))
                    all_goals first | exact hK.out _ _ ⟨_, fv_res .mul .f64 _ _ _, rfl⟩ (by first | exact bl_refl _ | exact bl_drewN (bl_refl _) _) | exact hK.out _ _ ⟨_, _, hM0, fv_res .add .f64 _ _ _, rfl⟩ (by first | exact bl_refl _ | exact bl_drewN (bl_refl _) _) | exact hK.out _ _ ⟨_, _, hM0, hA0, rfl⟩ (bl_refl _) | exact hK.out _ _ rfl (bl_refl _) | exact hK.out _ _ rfl (by assumption) | exact hK.out _ _ (by assumption) (by assumption)
                  · cases ho
                    have e8 : s 8 = _ := hs 8 (by decide) (by kernel_rfl)
                    simp only [e8] at hK ⊢
                    simp only [Act.put, List.setIfInBounds_toArray, List.set_cons_zero, List.set_cons_succ] at hK
                    clear hs
                    go_simp
                    all_goals (try go_wp2_with (first | fail))
                    all_goals first | exact hK.out _ _ ⟨_, fv_res .mul .f64 _ _ _, rfl⟩ (by first | exact bl_refl _ | exact bl_drewN (bl_refl _) _) | exact hK.out _ _ ⟨_, _, hM0, fv_res .add .f64 _ _ _, rfl⟩ (by first | exact bl_refl _ | exact bl_drewN (bl_refl _) _) | exact hK.out _ _ ⟨_, _, hM0, hA0, rfl⟩ (bl_refl _) | exact hK.out _ _ rfl (bl_refl _) | exact hK.out _ _ rfl (by assumption) | exact hK.out _ _ (by assumption) (by assumption)
                  · cases ho
                    have e9 : s 9 = _ := hs 9 (by decide) (by kernel_rfl)
                    simp only [e9] at hK ⊢
                    simp only [Act.put, List.setIfInBounds_toArray, List.set_cons_zero, List.set_cons_succ] at hK
                    clear hs
                    go_simp
                    all_goals (try go_wp2_with (first | fail))
                    all_goals first | exact hK.out _ _ ⟨_, fv_res .mul .f64 _ _ _, rfl⟩ (by first | exact bl_refl _ | exact bl_drewN (bl_refl _) _) | exact hK.out _ _ ⟨_, _, hM0, fv_res .add .f64 _ _ _, rfl⟩ (by first | exact bl_refl _ | exact bl_drewN (bl_refl _) _) | exact hK.out _ _ ⟨_, _, hM0, hA0, rfl⟩ (bl_refl _) | exact hK.out _ _ rfl (bl_refl _) | exact hK.out _ _ rfl (by assumption) | exact hK.out _ _ (by assumption) (by assumption)
                  · cases ho
                    have e10 : s 10 = _ := hs 10 (by decide) (by kernel_rfl)
                    simp only [e10] at hK ⊢
                    simp only [Act.put, List.setIfInBounds_toArray, List.set_cons_zero, List.set_cons_succ] at hK
                    clear hs
                    go_simp
                    all_goals (try go_wp2_with (first | fail))
                    all_goals first | exact hK.out _ _ ⟨_, fv_res .mul .f64 _ _ _, rfl⟩ (by first | exact bl_refl _ | exact bl_drewN (bl_refl _) _) | exact hK.out _ _ ⟨_, _, hM0, fv_res .add .f64 _ _ _, rfl⟩ (by first | exact bl_refl _ | exact bl_drewN (bl_refl _) _) | exact hK.out _ _ ⟨_, _, hM0, hA0, rfl⟩ (bl_refl _) | exact hK.out _ _ rfl (bl_refl _) | exact hK.out _ _ rfl (by assumption) | exact hK.out _ _ (by assumption) (by assumption)
                  · cases ho
                    have e5 : s 5 = _ := hs 5 (by decide) (by kernel_rfl)
                    have e11 : s 11 = _ := hs 11 (by decide) (by kernel_rfl)
                    simp only [e5, e11] at hK ⊢
                    simp only [Act.put, List.setIfInBounds_toArray, List.set_cons_zero, List.set_cons_succ] at hK
                    clear hs
                    go_simp
                    all_goals (try go_wp2_with (first | fail))
                    all_goals first | exact hK.out _ _ ⟨_, fv_res .mul .f64 _ _ _, rfl⟩ (by first | exact bl_refl _ | exact bl_drewN (bl_refl _) _) | exact hK.out _ _ ⟨_, _, hM0, fv_res .add .f64 _ _ _, rfl⟩ (by first | exact bl_refl _ | exact bl_drewN (bl_refl _) _) | exact hK.out _ _ ⟨_, _, hM0, hA0, rfl⟩ (bl_refl _) | exact hK.out _ _ rfl (bl_refl _) | exact hK.out _ _ rfl (by assumption) | exact hK.out _ _ (by assumption) (by assumption)
                  · cases ho
                    have e0 : s 0 = _ := hs 0 (by decide) (by kernel_rfl)
                    obtain ⟨t, hM0, e12⟩ := hs 12 (by decide) (by kernel_rfl)
                    simp only [e0, e12] at hK ⊢
                    simp only [Act.put, List.setIfInBounds_toArray, List.set_cons_zero, List.set_cons_succ] at hK
                    clear hs
                    go_simp
                    all_goals (try go_wp2_with (first | fail))
                    all_goals first | exact hK.out _ _ ⟨_, fv_res .mul .f64 _ _ _, rfl⟩ (by first | exact bl_refl _ | exact bl_drewN (bl_refl _) _) | exact hK.out _ _ ⟨_, _, hM0, fv_res .add .f64 _ _ _, rfl⟩ (by first | exact bl_refl _ | exact bl_drewN (bl_refl _) _) | exact hK.out _ _ ⟨_, _, hM0, hA0, rfl⟩ (bl_refl _) | exact hK.out _ _ rfl (bl_refl _) | exact hK.out _ _ rfl (by assumption) | exact hK.out _ _ (by assumption) (by assumption)
                case ht_w19 =>
                  intro s hs W hb hJ
                  have e0 : s 0 = _ := hs 0 (by decide)
                  have e1 : s 1 = _ := hs 1 (by decide)
                  have e2 : s 2 = _ := hs 2 (by decide)
                  have e3 : s 3 = _ := hs 3 (by decide)
                  have e4 : s 4 = _ := hs 4 (by decide)
                  have e5 : s 5 = _ := hs 5 (by decide)
                  have e6 : s 6 = _ := hs 6 (by decide)
                  have e7 : s 7 = _ := hs 7 (by decide)
                  have e8 : s 8 = _ := hs 8 (by decide)
                  have e9 : s 9 = _ := hs 9 (by decide)
                  have e10 : s 10 = _ := hs 10 (by decide)
                  have e11 : s 11 = _ := hs 11 (by decide)
                  obtain ⟨_, _, e12⟩ := hs 12 (by decide)
                  obtain ⟨tx1, tx1r, tx1m, tx1a, e13⟩ := hs 13 (by decide)
                  simp only [e0, e1, e2, e3, e4, e5, e6, e7, e8, e9, e10, e11, e12, e13]
                  clear hs
                  refine tail_step rfl (fun K hK => ?_)
                  go_simp
                  refine hK.out _ _ ?_
                  clear hK K
                  refine tail_end ?_
                  have X2 := hb
                  obtain ⟨m0, m1, m2, m3⟩ : _ ∧ _ ∧ _ ∧ _ := ⟨keep X2 m0, keep X2 m1, keep X2 m2, keep X2 m3⟩
                  go_wp2
                  refine wp_region_multiA 14 (fun i v => match i with | 0 => v = .float .f64 sy | 1 => v = .slice (some ⟨b, off, none⟩) n cap | 2 => v = .int .i64 (k : Int) | 3 => v = .pointer (some ⟨b, off + k * 4, none⟩) | 4 => v = .pointer (some ⟨b, off + k * 4, none⟩) | 5 => v = .float .f64 (ms k) | 6 => v = .slice (some ⟨b, off, none⟩) n cap | 7 => v = .int .i64 (k : Int) | 8 => v = .pointer (some ⟨b, off + k * 4, none⟩) | 9 => v = .pointer (some ⟨b, off + k * 4 + 2, none⟩) | 10 => v = .pointer (some ⟨b, off + k * 4 + 3, none⟩) | 11 => v = .float .f64 (ys k) | 12 => ∃ t, resK .mul .f64 (ms k) (ys k) t ∧ v = .float .f64 t | 13 => ∃ t r, resK .mul .f64 (ms k) (ys k) t ∧ resK .add .f64 sy t r ∧ v = .float .f64 r | _ => False) (fun i => match i with  | _ => none) ?A_w20 (by kernel_rfl) (by kernel_rfl) ?hA_w20 ?ha_w20 ?hq_w20 [14] rfl ?ht_w20
                  case hA_w20 =>
                    intro s
                    simp only [putL, dstO, Act.put, List.getElem?_toArray, List.getElem?_cons_zero, List.getElem?_cons_succ, Option.bind_some, List.setIfInBounds_toArray, List.set_cons_zero, List.set_cons_succ, if_true]
                    all_goals exact rfl
                  case ha_w20 =>
                    intro i o ob hi ho hal
                    rcases (show i = 0 ∨ i = 1 ∨ i = 2 ∨ i = 3 ∨ i = 4 ∨ i = 5 ∨ i = 6 ∨ i = 7 ∨ i = 8 ∨ i = 9 ∨ i = 10 ∨ i = 11 ∨ i = 12 ∨ i = 13 by omega) with rfl | rfl | rfl | rfl | rfl | rfl | rfl | rfl | rfl | rfl | rfl | rfl | rfl | rfl
                    · cases hal
                    · cases hal
                    · cases hal
                    · cases hal
                    · cases hal
                    · cases hal
                    · cases hal
                    · cases hal
                    · cases hal
                    · cases hal
                    · cases hal
                    · cases hal
                    · cases hal
                    · cases hal
                  case hq_w20 =>
                    intro i o hi ho hal s hs W hb K hK
                    have q1 := run_mul Try.prog; have q2 := run_add Try.prog; have u0 := keep hb m0; have u1 := keep hb m1; have u2 := keep hb m2; have u3 := keep hb m3; have lbW := World.block_lt_of_cell? _ _ u0; simp only at lbW
                    rcases (show i = 0 ∨ i = 1 ∨ i = 2 ∨ i = 3 ∨ i = 4 ∨ i = 5 ∨ i = 6 ∨ i = 7 ∨ i = 8 ∨ i = 9 ∨ i = 10 ∨ i = 11 ∨ i = 12 ∨ i = 13 by omega) with rfl | rfl | rfl | rfl | rfl | rfl | rfl | rfl | rfl | rfl | rfl | rfl | rfl | rfl
                    · cases ho
                      simp only [Act.put, List.setIfInBounds_toArray, List.set_cons_zero, List.set_cons_succ] at hK
                      clear hs
                      go_simp
                      all_goals (try go_wp2_with (first | fail))
                      all_goals first | exact hK.out _ _ ⟨_, fv_res .mul .f64 _ _ _, rfl⟩ (by first | exact bl_refl _ | exact bl_drewN (bl_refl _) _) | exact hK.out _ _ ⟨_, _, hM0, fv_res .add .f64 _ _ _, rfl⟩ (by first | exact bl_refl _ | exact bl_drewN (bl_refl _) _) | exact hK.out _ _ ⟨_, _, hM0, hA0, rfl⟩ (bl_refl _) | exact hK.out _ _ rfl (bl_refl _) | exact hK.out _ _ rfl (by assumption) | exact hK.out _ _ (by assumption) (by assumption)
                    · cases ho
                      simp only [Act.put, List.setIfInBounds_toArray, List.set_cons_zero, List.set_cons_succ] at hK
                      clear hs
                      go_simp
                      all_goals (try go_wp2_with (first | fail))
                      all_goals first | exact hK.out _ _ ⟨_, fv_res .mul .f64 _ _ _, rfl⟩ (by first | exact bl_refl _ | exact bl_drewN (bl_refl _) _) | exact hK.out _ _ ⟨_, _, hM0, fv_res .add .f64 _ _ _, rfl⟩ (by first | exact bl_refl _ | exact bl_drewN (bl_refl _) _) | exact hK.out _ _ ⟨_, _, hM0, hA0, rfl⟩ (bl_refl _) | exact hK.out _ _ rfl (bl_refl _) | exact hK.out _ _ rfl (by assumption) | exact hK.out _ _ (by assumption) (by assumption)
                    · cases ho
                      simp only [Act.put, List.setIfInBounds_toArray, List.set_cons_zero, List.set_cons_succ] at hK
                      clear hs
                      go_simp
                      all_goals (try go_wp2_with (first | fail))
                      all_goals first | exact hK.out _ _ ⟨_, fv_res .mul .f64 _ _ _, rfl⟩ (by first | exact bl_refl _ | exact bl_drewN (bl_refl _) _) | exact hK.out _ _ ⟨_, _, hM0, fv_res .add .f64 _ _ _, rfl⟩ (by first | exact bl_refl _ | exact bl_drewN (bl_refl _) _) | exact hK.out _ _ ⟨_, _, hM0, hA0, rfl⟩ (bl_refl _) | exact hK.out _ _ rfl (bl_refl _) | exact hK.out _ _ rfl (by assumption) | exact hK.out _ _ (by assumption) (by assumption)
                    · cases ho
                      have e1 : s 1 = _ := hs 1 (by decide) (by kernel_rfl)
                      have e2 : s 2 = _ := hs 2 (by decide) (by kernel_rfl)
                      simp only [e1, e2] at hK ⊢
                      simp only [Act.put, List.setIfInBounds_toArray, List.set_cons_zero, List.set_cons_succ] at hK
                      clear hs
                      go_simp
                      all_goals (try go_wp2_with (first | fail))
                      all_goals first | exact hK.out _ _ ⟨_, fv_res .mul .f64 _ _ _, rfl⟩ (by first | exact bl_refl _ | exact bl_drewN (bl_refl _) _) | exact hK.out _ _ ⟨_, _, hM0, fv_res .add .f64 _ _ _, rfl⟩ (by first | exact bl_refl _ | exact bl_drewN (bl_refl _) _) | exact hK.out _ _ ⟨_, _, hM0, hA0, rfl⟩ (bl_refl _) | exact hK.out _ _ rfl (bl_refl _) | exact hK.out _ _ rfl (by assumption) | exact hK.out _ _ (by assumption) (by assumption)
                    · cases ho
                      have e3 : s 3 = _ := hs 3 (by decide) (by kernel_rfl)
                      simp only [e3] at hK ⊢
                      simp only [Act.put, List.setIfInBounds_toArray, List.set_cons_zero, List.set_cons_succ] at hK
                      clear hs
                      go_simp
                      all_goals (try go_wp2_with (first | fail))
                      all_goals first | exact hK.out _ _ ⟨_, fv_res .mul .f64 _ _ _, rfl⟩ (by first | exact bl_refl _ | exact bl_drewN (bl_refl _) _) | exact hK.out _ _ ⟨_, _, hM0, fv_res .add .f64 _ _ _, rfl⟩ (by first | exact bl_refl _ | exact bl_drewN (bl_refl _) _) | exact hK.out _ _ ⟨_, _, hM0, hA0, rfl⟩ (bl_refl _) | exact hK.out _ _ rfl (bl_refl _) | exact hK.out _ _ rfl (by assumption) | exact hK.out _ _ (by assumption) (by assumption)
                    · cases ho
                      have e4 : s 4 = _ := hs 4 (by decide) (by kernel_rfl)
                      simp only [e4] at hK ⊢
                      simp only [Act.put, List.setIfInBounds_toArray, List.set_cons_zero, List.set_cons_succ] at hK
                      clear hs
                      go_simp
                      all_goals (try go_wp2_with (first | fail))
                      all_goals first | exact hK.out _ _ ⟨_, fv_res .mul .f64 _ _ _, rfl⟩ (by first | exact bl_refl _ | exact bl_drewN (bl_refl _) _) | exact hK.out _ _ ⟨_, _, hM0, fv_res .add .f64 _ _ _, rfl⟩ (by first | exact bl_refl _ | exact bl_drewN (bl_refl _) _) | exact hK.out _ _ ⟨_, _, hM0, hA0, rfl⟩ (bl_refl _) | exact hK.out _ _ rfl (bl_refl _) | exact hK.out _ _ rfl (by assumption) | exact hK.out _ _ (by assumption) (by assumption)
                    · cases ho
                      simp only [Act.put, List.setIfInBounds_toArray, List.set_cons_zero, List.set_cons_succ] at hK
                      clear hs
                      go_simp
                      all_goals (try go_wp2_with (first | fail))
                      all_goals first | exact hK.out _ _ ⟨_, fv_res .mul .f64 _ _ _, rfl⟩ (by first | exact bl_refl _ | exact bl_drewN (bl_refl _) _) | exact hK.out _ _ ⟨_, _, hM0, fv_res .add .f64 _ _ _, rfl⟩ (by first | exact bl_refl _ | exact bl_drewN (bl_refl _) _) | exact hK.out _ _ ⟨_, _, hM0, hA0, rfl⟩ (bl_refl _) | exact hK.out _ _ rfl (bl_refl _) | exact hK.out _ _ rfl (by assumption) | exact hK.out _ _ (by assumption) (by assumption)
                    · cases ho
                      simp only [Act.put, List.setIfInBounds_toArray, List.set_cons_zero, List.set_cons_succ] at hK
                      clear hs
                      go_simp
                      all_goals (try go_wp2_with (first | fail))
                      all_goals first | exact hK.out _ _ ⟨_, fv_res .mul .f64 _ _ _, rfl⟩ (by first | exact bl_refl _ | exact bl_drewN (bl_refl _) _) | exact hK.out _ _ ⟨_, _, hM0, fv_res .add .f64 _ _ _, rfl⟩ (by first | exact bl_refl _ | exact bl_drewN (bl_refl _) _) | exact hK.out _ _ ⟨_, _, hM0, hA0, rfl⟩ (bl_refl _) | exact hK.out _ _ rfl (bl_refl _) | exact hK.out _ _ rfl (by assumption) | exact hK.out _ _ (by assumption) (by assumption)
                    · cases ho
                      have e6 : s 6 = _ := hs 6 (by decide) (by kernel_rfl)
                      have e7 : s 7 = _ := hs 7 (by decide) (by kernel_rfl)
                      simp only [e6, e7] at hK ⊢
                      simp only [Act.put, List.setIfInBounds_toArray, List.set_cons_zero, List.set_cons_succ] at hK
                      clear hs
                      go_simp
                      all_goals (try go_wp2_with (first | fail))
                      all_goals first | exact hK.out _ _ ⟨_, fv_res .mul .f64 _ _ _, rfl⟩ (by first | exact bl_refl _ | exact bl_drewN (bl_refl _) _) | exact hK.out _ _ ⟨_, _, hM0, fv_res .add .f64 _ _ _, rfl⟩ (by first | exact bl_refl _ | exact bl_drewN (bl_refl _) _) | exact hK.out _ _ ⟨_, _, hM0, hA0, rfl⟩ (bl_refl _) | exact hK.out _ _ rfl (bl_refl _) | exact hK.out _ _ rfl (by assumption) | exact hK.out _ _ (by assumption) (by assumption)
                    · cases ho
                      have e8 : s 8 = _ := hs 8 (by decide) (by kernel_rfl)
                      simp only [e8] at hK ⊢
                      simp only [Act.put, List.setIfInBounds_toArray, List.set_cons_zero, List.set_cons_succ] at hK
                      clear hs
                      go_simp
                      all_goals (try go_wp2_with (first | fail))
                      all_goals first | exact hK.out _ _ ⟨_, fv_res .mul .f64 _ _ _, rfl⟩ (by first | exact bl_refl _ | exact bl_drewN (bl_refl _) _) | exact hK.out _ _ ⟨_, _, hM0, fv_res .add .f64 _ _ _, rfl⟩ (by first | exact bl_refl _ | exact bl_drewN (bl_refl _) _) | exact hK.out _ _ ⟨_, _, hM0, hA0, rfl⟩ (bl_refl _) | exact hK.out _ _ rfl (bl_refl _) | exact hK.out _ _ rfl (by assumption) | exact hK.out _ _ (by assumption) (by assumption)
                    · cases ho
                      have e9 : s 9 = _ := hs 9 (by decide) (by kernel_rfl)
                      simp only [e9] at hK ⊢
                      simp only [Act.put, List.setIfInBounds_toArray, List.set_cons_zero, List.set_cons_succ] at hK
                      clear hs
                      go_simp
                      all_goals (try go_wp2_with (first | fail))
                      all_goals first | exact hK.out _ _ ⟨_, fv_res .mul .f64 _ _ _, rfl⟩ (by first | exact bl_refl _ | exact bl_drewN (bl_refl _) _) | exact hK.out _ _ ⟨_, _, hM0, fv_res .add .f64 _ _ _, rfl⟩ (by first | exact bl_refl _ | exact bl_drewN (bl_refl _) _) | exact hK.out _ _ ⟨_, _, hM0, hA0, rfl⟩ (bl_refl _) | exact hK.out _ _ rfl (bl_refl _) | exact hK.out _ _ rfl (by assumption) | exact hK.out _ _ (by assumption) (by assumption)
                    · cases ho
                      have e10 : s 10 = _ := hs 10 (by decide) (by kernel_rfl)
                      simp only [e10] at hK ⊢
                      simp only [Act.put, List.setIfInBounds_toArray, List.set_cons_zero, List.set_cons_succ] at hK
                      clear hs
                      go_simp
                      all_goals (try go_wp2_with (first | fail))
                      all_goals first | exact hK.out _ _ ⟨_, fv_res .mul .f64 _ _ _, rfl⟩ (by first | exact bl_refl _ | exact bl_drewN (bl_refl _) _) | exact hK.out _ _ ⟨_, _, hM0, fv_res .add .f64 _ _ _, rfl⟩ (by first | exact bl_refl _ | exact bl_drewN (bl_refl _) _) | exact hK.out _ _ ⟨_, _, hM0, hA0, rfl⟩ (bl_refl _) | exact hK.out _ _ rfl (bl_refl _) | exact hK.out _ _ rfl (by assumption) | exact hK.out _ _ (by assumption) (by assumption)
                    · cases ho
                      have e5 : s 5 = _ := hs 5 (by decide) (by kernel_rfl)
                      have e11 : s 11 = _ := hs 11 (by decide) (by kernel_rfl)
                      simp only [e5, e11] at hK ⊢
                      simp only [Act.put, List.setIfInBounds_toArray, List.set_cons_zero, List.set_cons_succ] at hK
                      clear hs
                      go_simp
                      all_goals (try go_wp2_with (first | fail))
                      all_goals first | exact hK.out _ _ ⟨_, fv_res .mul .f64 _ _ _, rfl⟩ (by first | exact bl_refl _ | exact bl_drewN (bl_refl _) _) | exact hK.out _ _ ⟨_, _, hM0, fv_res .add .f64 _ _ _, rfl⟩ (by first | exact bl_refl _ | exact bl_drewN (bl_refl _) _) | exact hK.out _ _ ⟨_, _, hM0, hA0, rfl⟩ (bl_refl _) | exact hK.out _ _ rfl (bl_refl _) | exact hK.out _ _ rfl (by assumption) | exact hK.out _ _ (by assumption) (by assumption)
                    · cases ho
                      have e0 : s 0 = _ := hs 0 (by decide) (by kernel_rfl)
                      obtain ⟨t, hM0, e12⟩ := hs 12 (by decide) (by kernel_rfl)
                      simp only [e0, e12] at hK ⊢
                      simp only [Act.put, List.setIfInBounds_toArray, List.set_cons_zero, List.set_cons_succ] at hK
                      clear hs
                      go_simp
                      all_goals (try go_wp2_with (first | fail))
                      all_goals first | exact hK.out _ _ ⟨_, fv_res .mul .f64 _ _ _, rfl⟩ (by first | exact bl_refl _ | exact bl_drewN (bl_refl _) _) | exact hK.out _ _ ⟨_, _, hM0, fv_res .add .f64 _ _ _, rfl⟩ (by first | exact bl_refl _ | exact bl_drewN (bl_refl _) _) | exact hK.out _ _ ⟨_, _, hM0, hA0, rfl⟩ (bl_refl _) | exact hK.out _ _ rfl (bl_refl _) | exact hK.out _ _ rfl (by assumption) | exact hK.out _ _ (by assumption) (by assumption)
                  case ht_w20 =>
                    intro s hs W hb hJ
                    have e0 : s 0 = _ := hs 0 (by decide)
                    have e1 : s 1 = _ := hs 1 (by decide)
                    have e2 : s 2 = _ := hs 2 (by decide)
                    have e3 : s 3 = _ := hs 3 (by decide)
                    have e4 : s 4 = _ := hs 4 (by decide)
                    have e5 : s 5 = _ := hs 5 (by decide)
                    have e6 : s 6 = _ := hs 6 (by decide)
                    have e7 : s 7 = _ := hs 7 (by decide)
                    have e8 : s 8 = _ := hs 8 (by decide)
                    have e9 : s 9 = _ := hs 9 (by decide)
                    have e10 : s 10 = _ := hs 10 (by decide)
                    have e11 : s 11 = _ := hs 11 (by decide)
                    obtain ⟨_, _, e12⟩ := hs 12 (by decide)
                    obtain ⟨ty1, ty1r, ty1m, ty1a, e13⟩ := hs 13 (by decide)
                    simp only [e0, e1, e2, e3, e4, e5, e6, e7, e8, e9, e10, e11, e12, e13]
                    clear hs
                    refine tail_step rfl (fun K hK => ?_)
                    go_simp
                    refine hK.out _ _ ?_
                    clear hK K
                    refine tail_end ?_
                    have X3 := bl_trans X2 hb
                    go_wp2
                    refine ⟨⟨k + 1, Mr, tx1r, ty1r, fun q => if q = k then tx1 else tx q, fun q => if q = k then ty1 else ty q, by omega, by omega, rfl, rfl, by go_num, bl_trans BW3 X3, ?_, ?_, ?_, ?_, ?_, keep X3 d0, keep X3 d1, keep X3 d2, keep X3 d3, keep X3 p0, keep X3 p1, keep X3 p2, keep X3 p3⟩, by simp [intOf]; omega⟩
                    · have h1 := accR_succ (unhide hMaH) (r := Mr) (by show resK .add .f64 M (ms (k - 1 + 1)) Mr; rw [show k - 1 + 1 = k by omega]; exact hMr)
                      rw [show k - 1 + 1 = k + 1 - 1 by omega] at h1
                      exact h1
                    · intro q hq
                      by_cases e : q = k
                      · subst e; simp only [if_true]; exact tx1m
                      · simp only [if_neg e]; exact hTx q (by omega)
                    · exact acc_more hk1 (unhide hXaH) tx1a
                    · intro q hq
                      by_cases e : q = k
                      · subst e; simp only [if_true]; exact ty1m
                      · simp only [if_neg e]; exact hTy q (by omega)
                    · exact acc_more hk1 (unhide hYaH) ty1a
            · have hqn : n = k := by omega
              subst hqn
              have fR : ∀ o, wr.frozen? ⟨w.heap.size, o, none⟩ = false := fun o => (hB.2 _).trans (fresh_frozen (Nat.le_refl _))
              have hSM : SumR n (fun q t => t = ms q) M := ⟨ms, fun q _ => rfl, hMa⟩
              have hSX : SumR n (fun q t => resK .mul .f64 (ms q) (xs q) t) sx := ⟨tx, hTx, hXa⟩
              have hSY : SumR n (fun q t => resK .mul .f64 (ms q) (ys q) t) sy := ⟨ty, hTy, hYa⟩
              clear hMa hTx hXa hTy hYa
              cases hz : eqK .f64 M 0
              · have hq1 := fv_res .quo .f64 sx M wr
                have hq2 := fv_res .quo .f64 sy M (wr.drewN (fd .quo .f64 sx M))
                obtain ⟨px, hpx⟩ : ∃ p, fv .quo .f64 sx M wr = p := ⟨_, rfl⟩
                obtain ⟨py, hpy⟩ : ∃ p, fv .quo .f64 sy M (wr.drewN (fd .quo .f64 sx M)) = p := ⟨_, rfl⟩
                rw [hpx] at hq1
                rw [hpy] at hq2
                go_wp2_with (first | (go_at_call 27; refine (rVec_any _ _ _).mono ?_; rintro e w_2 ⟨rfl, hb⟩; have B3 : Bel wr w_2 := bl_trans (by repeat (first | exact bl_refl _ | apply bl_drewN)) hb; have B2 := bl_trans hB B3; replace z0 := keep B3 z0; replace z1 := keep B3 z1; replace z2 := keep B3 z2; replace z3 := keep B3 z3; replace c0 := keep B3 c0; replace c1' := keep B3 c1'; replace c2 := keep B3 c2; replace c3 := keep B3 c3; have fC2 : ∀ o, w_2.frozen? ⟨c, o, none⟩ = false := fun o => (B3.2 _).trans (fC o)))
                clear hpx hpy
                have e0 : ((w_2.setCell ⟨c, 2, none⟩ (.float .f64 px)).setCell ⟨c, 3, none⟩ (.float .f64 py)).cell? ⟨c, 0, none⟩ = some (.float .f64 M) := (set_away (by decide)).trans ((set_away (by decide)).trans c0)
                have e1 : ((w_2.setCell ⟨c, 2, none⟩ (.float .f64 px)).setCell ⟨c, 3, none⟩ (.float .f64 py)).cell? ⟨c, 1, none⟩ = some (.float .f64 (js 0)) := (set_away (by decide)).trans ((set_away (by decide)).trans c1')
                have e2 : ((w_2.setCell ⟨c, 2, none⟩ (.float .f64 px)).setCell ⟨c, 3, none⟩ (.float .f64 py)).cell? ⟨c, 2, none⟩ = some (.float .f64 px) := (set_away (by decide)).trans (World.cell?_setCell_same _ _ _ c2)
                have e3 : ((w_2.setCell ⟨c, 2, none⟩ (.float .f64 px)).setCell ⟨c, 3, none⟩ (.float .f64 py)).cell? ⟨c, 3, none⟩ = some (.float .f64 py) := World.cell?_setCell_same _ _ _ ((set_away (by decide)).trans c3)
                have y0 := up_set2 (o := 3) (x := .float .f64 py) n1.symm (up_set2 (o := 2) (x := .float .f64 px) n1.symm z0)
                have y1 := up_set2 (o := 3) (x := .float .f64 py) n1.symm (up_set2 (o := 2) (x := .float .f64 px) n1.symm z1)
                have y2 := up_set2 (o := 3) (x := .float .f64 py) n1.symm (up_set2 (o := 2) (x := .float .f64 px) n1.symm z2)
                have y3 := up_set2 (o := 3) (x := .float .f64 py) n1.symm (up_set2 (o := 2) (x := .float .f64 px) n1.symm z3)
                have BS := bl_set (p := ⟨c, 3, none⟩) (v := .float .f64 py) (bl_set (p := ⟨c, 2, none⟩) (v := .float .f64 px) B2 n0) n0
                go_loopw [9] (fun i' wr => ∃ (k I : Nat) (ti : Nat → Nat), k ≤ n ∧ i' = .int .i64 k ∧ Bel w wr ∧ (∀ p, p < k → AboutF (ms p) (js p) (xs p) (ys p) px py (ti p)) ∧ (k = 0 ∨ (0 < k ∧ accR (ti 0) (fun q => ti (q + 1)) (k - 1) I)) ∧ wr.cell? ⟨c, 0, none⟩ = some (.float .f64 M) ∧ wr.cell? ⟨c, 1, none⟩ = some (.float .f64 I) ∧ wr.cell? ⟨c, 2, none⟩ = some (.float .f64 px) ∧ wr.cell? ⟨c, 3, none⟩ = some (.float .f64 py) ∧ wr.cell? ⟨w.heap.size, 0, none⟩ = some (.float .f64 0) ∧ wr.cell? ⟨w.heap.size, 1, none⟩ = some (.float .f64 0) ∧ wr.cell? ⟨w.heap.size, 2, none⟩ = some (.float .f64 0) ∧ wr.cell? ⟨w.heap.size, 3, none⟩ = some (.float .f64 0)) (fun i' _ => n - (intOf i').toNat)
                case atStart => exact ⟨0, js 0, fun _ => 0, by omega, rfl, BS, fun p hp => by omega, .inl rfl, e0, e1, e2, e3, y0, y1, y2, y3⟩
                case round =>
                  clear e0 e1 e2 e3 y0 y1 y2 y3 BS B2 B3 z0 z1 z2 z3 c0 c1' c2 c3 fR fC fC2
                  obtain ⟨k, I, ti, hk, rfl, hB, hti, hac, c0, c1', c2, c3, z0, z1, z2, z3⟩ := hrel
                  have fR : ∀ o, wr.frozen? ⟨w.heap.size, o, none⟩ = false := fun o => (hB.2 _).trans (fresh_frozen (Nat.le_refl _))
                  have fC : ∀ o, wr.frozen? ⟨c, o, none⟩ = false := fun o => (hB.2 _).trans (fresh_frozen n0)
                  by_cases hlt : k < n
                  · have k1 : (k : Int) < (n : Int) := by omega
                    obtain ⟨m0, m1, m2, m3⟩ := (hM.bel hB) k hlt
                    have hacH := hide hac
                    clear hac
                    go_wp2
                    refine wp_region_multiA 22 (fun i v => match i with | 0 => v = .slice (some ⟨b, off, none⟩) n cap | 1 => v = .int .i64 (k : Int) | 2 => v = .pointer (some ⟨b, off + k * 4, none⟩) | 3 => v = .pointer (some ⟨b, off + k * 4 + 1, none⟩) | 4 => v = .float .f64 (js k) | 5 => v = .slice (some ⟨b, off, none⟩) n cap | 6 => v = .int .i64 (k : Int) | 7 => v = .pointer (some ⟨b, off + k * 4, none⟩) | 8 => v = .pointer (some ⟨b, off + k * 4, none⟩) | 9 => v = .float .f64 (ms k) | 10 => v = .slice (some ⟨b, off, none⟩) n cap | 11 => v = .int .i64 (k : Int) | 12 => v = .pointer (some ⟨b, off + k * 4, none⟩) | 13 => v = .pointer (some ⟨b, off + k * 4 + 2, none⟩) | 14 => v = .agg #[.float .f64 (xs k), .float .f64 (ys k)] | 15 => v = .pointer (some ⟨c, 2, none⟩) | 16 => v = .agg #[.float .f64 px, .float .f64 py] | 17 => ∃ x y, SubR (xs k) (ys k) px py x y ∧ v = .agg #[.float .f64 x, .float .f64 y] | 18 => ∃ x y t, SubR (xs k) (ys k) px py x y ∧ DotR x y x y t ∧ v = .float .f64 t | 19 => ∃ x y t q, SubR (xs k) (ys k) px py x y ∧ DotR x y x y t ∧ resK .mul .f64 (ms k) t q ∧ v = .float .f64 q | 20 => ∃ r, AboutF (ms k) (js k) (xs k) (ys k) px py r ∧ v = .float .f64 r | 21 => ∃ r, AboutF (ms k) (js k) (xs k) (ys k) px py r ∧ v = .float .f64 r | _ => False) (fun i => match i with  | _ => none) ?A_w27 (by kernel_rfl) (by kernel_rfl) ?hA_w27 ?ha_w27 ?hq_w27 [] rfl ?ht_w27
                    case hA_w27 =>
                      intro s
                      simp only [putL, dstO, Act.put, List.getElem?_toArray, List.getElem?_cons_zero, List.getElem?_cons_succ, Option.bind_some, List.setIfInBounds_toArray, List.set_cons_zero, List.set_cons_succ, if_true]
                      all_goals exact rfl
                    case ha_w27 =>
                      intro i o ob hi ho hal
                      rcases (show i = 0 ∨ i = 1 ∨ i = 2 ∨ i = 3 ∨ i = 4 ∨ i = 5 ∨ i = 6 ∨ i = 7 ∨ i = 8 ∨ i = 9 ∨ i = 10 ∨ i = 11 ∨ i = 12 ∨ i = 13 ∨ i = 14 ∨ i = 15 ∨ i = 16 ∨ i = 17 ∨ i = 18 ∨ i = 19 ∨ i = 20 ∨ i = 21 by omega) with rfl | rfl | rfl | rfl | rfl | rfl | rfl | rfl | rfl | rfl | rfl | rfl | rfl | rfl | rfl | rfl | rfl | rfl | rfl | rfl | rfl | rfl
                      · cases hal
                      · cases hal
                      · cases hal
                      · cases hal
                      · cases hal
                      · cases hal
                      · cases hal
                      · cases hal
                      · cases hal
                      · cases hal
                      · cases hal
                      · cases hal
                      · cases hal
                      · cases hal
                      · cases hal
                      · cases hal
                      · cases hal
                      · cases hal
                      · cases hal
                      · cases hal
                      · cases hal
                      · cases hal
                    case hq_w27 =>
                      intro i o hi ho hal s hs W hb K hK
                      have q5 := run_mul Try.prog; have q6 := run_add Try.prog; have u0 := keep hb m0; have u1 := keep hb m1; have u2 := keep hb m2; have u3 := keep hb m3; have lbW := World.block_lt_of_cell? _ _ u0; simp only at lbW; have v2 := keep hb c2; have v3 := keep hb c3
                      rcases (show i = 0 ∨ i = 1 ∨ i = 2 ∨ i = 3 ∨ i = 4 ∨ i = 5 ∨ i = 6 ∨ i = 7 ∨ i = 8 ∨ i = 9 ∨ i = 10 ∨ i = 11 ∨ i = 12 ∨ i = 13 ∨ i = 14 ∨ i = 15 ∨ i = 16 ∨ i = 17 ∨ i = 18 ∨ i = 19 ∨ i = 20 ∨ i = 21 by omega) with rfl | rfl | rfl | rfl | rfl | rfl | rfl | rfl | rfl | rfl | rfl | rfl | rfl | rfl | rfl | rfl | rfl | rfl | rfl | rfl | rfl | rfl
                      · cases ho
                        simp only [Act.put, List.setIfInBounds_toArray, List.set_cons_zero, List.set_cons_succ] at hK
                        clear hs
                        go_simp
                        all_goals (try go_wp2_with (first | (go_at_call 29; refine (rSub_any _ _ _ _ _).mono ?_; rintro e w' ⟨x, y, hS, rfl, hb1⟩) | (go_at_call 28; refine (rSquare_any _ _ _).mono ?_; rintro e w' ⟨t, hD, rfl, hb1⟩)))
                        all_goals first | exact hK.out _ _ ⟨_, _, hS, rfl⟩ hb1 | exact hK.out _ _ ⟨_, _, _, hS, hD, rfl⟩ hb1 | exact hK.out _ _ ⟨_, _, _, _, hS, hD, fv_res .mul .f64 _ _ _, rfl⟩ (by first | exact bl_refl _ | exact bl_drewN (bl_refl _) _) | exact hK.out _ _ ⟨_, ⟨_, _, _, _, hS, hD, hMq, fv_res .add .f64 _ _ _⟩, rfl⟩ (by first | exact bl_refl _ | exact bl_drewN (bl_refl _) _) | exact hK.out _ _ ⟨_, hR, rfl⟩ (bl_refl _) | exact hK.out _ _ rfl (bl_refl _) | exact hK.out _ _ rfl (by assumption) | exact hK.out _ _ (by assumption) (by assumption)
                      · cases ho
                        simp only [Act.put, List.setIfInBounds_toArray, List.set_cons_zero, List.set_cons_succ] at hK
                        clear hs
                        go_simp
                        all_goals (try go_wp2_with (first | (go_at_call 29; refine (rSub_any _ _ _ _ _).mono ?_; rintro e w' ⟨x, y, hS, rfl, hb1⟩) | (go_at_call 28; refine (rSquare_any _ _ _).mono ?_; rintro e w' ⟨t, hD, rfl, hb1⟩)))
                        all_goals first | exact hK.out _ _ ⟨_, _, hS, rfl⟩ hb1 | exact hK.out _ _ ⟨_, _, _, hS, hD, rfl⟩ hb1 | exact hK.out _ _ ⟨_, _, _, _, hS, hD, fv_res .mul .f64 _ _ _, rfl⟩ (by first | exact bl_refl _ | exact bl_drewN (bl_refl _) _) | exact hK.out _ _ ⟨_, ⟨_, _, _, _, hS, hD, hMq, fv_res .add .f64 _ _ _⟩, rfl⟩ (by first | exact bl_refl _ | exact bl_drewN (bl_refl _) _) | exact hK.out _ _ ⟨_, hR, rfl⟩ (bl_refl _) | exact hK.out _ _ rfl (bl_refl _) | exact hK.out _ _ rfl (by assumption) | exact hK.out _ _ (by assumption) (by assumption)
                      · cases ho
                        have e0 : s 0 = _ := hs 0 (by decide) (by kernel_rfl)
                        have e1 : s 1 = _ := hs 1 (by decide) (by kernel_rfl)
                        simp only [e0, e1] at hK ⊢
                        simp only [Act.put, List.setIfInBounds_toArray, List.set_cons_zero, List.set_cons_succ] at hK
                        clear hs
                        go_simp
                        all_goals (try go_wp2_with (first | (go_at_call 29; refine (rSub_any _ _ _ _ _).mono ?_; rintro e w' ⟨x, y, hS, rfl, hb1⟩) | (go_at_call 28; refine (rSquare_any _ _ _).mono ?_; rintro e w' ⟨t, hD, rfl, hb1⟩)))
                        all_goals first | exact hK.out _ _ ⟨_, _, hS, rfl⟩ hb1 | exact hK.out _ _ ⟨_, _, _, hS, hD, rfl⟩ hb1 | exact hK.out _ _ ⟨_, _, _, _, hS, hD, fv_res .mul .f64 _ _ _, rfl⟩ (by first | exact bl_refl _ | exact bl_drewN (bl_refl _) _) | exact hK.out _ _ ⟨_, ⟨_, _, _, _, hS, hD, hMq, fv_res .add .f64 _ _ _⟩, rfl⟩ (by first | exact bl_refl _ | exact bl_drewN (bl_refl _) _) | exact hK.out _ _ ⟨_, hR, rfl⟩ (bl_refl _) | exact hK.out _ _ rfl (bl_refl _) | exact hK.out _ _ rfl (by assumption) | exact hK.out _ _ (by assumption) (by assumption)
                      · cases ho
                        have e2 : s 2 = _ := hs 2 (by decide) (by kernel_rfl)
                        simp only [e2] at hK ⊢
                        simp only [Act.put, List.setIfInBounds_toArray, List.set_cons_zero, List.set_cons_succ] at hK
                        clear hs
                        go_simp
                        all_goals (try go_wp2_with (first | (go_at_call 29; refine (rSub_any _ _ _ _ _).mono ?_; rintro e w' ⟨x, y, hS, rfl, hb1⟩) | (go_at_call 28; refine (rSquare_any _ _ _).mono ?_; rintro e w' ⟨t, hD, rfl, hb1⟩)))
                        all_goals first | exact hK.out _ _ ⟨_, _, hS, rfl⟩ hb1 | exact hK.out _ _ ⟨_, _, _, hS, hD, rfl⟩ hb1 | exact hK.out _ _ ⟨_, _, _, _, hS, hD, fv_res .mul .f64 _ _ _, rfl⟩ (by first | exact bl_refl _ | exact bl_drewN (bl_refl _) _) | exact hK.out _ _ ⟨_, ⟨_, _, _, _, hS, hD, hMq, fv_res .add .f64 _ _ _⟩, rfl⟩ (by first | exact bl_refl _ | exact bl_drewN (bl_refl _) _) | exact hK.out _ _ ⟨_, hR, rfl⟩ (bl_refl _) | exact hK.out _ _ rfl (bl_refl _) | exact hK.out _ _ rfl (by assumption) | exact hK.out _ _ (by assumption) (by assumption)
                      · cases ho
                        have e3 : s 3 = _ := hs 3 (by decide) (by kernel_rfl)
                        simp only [e3] at hK ⊢
                        simp only [Act.put, List.setIfInBounds_toArray, List.set_cons_zero, List.set_cons_succ] at hK
                        clear hs
                        go_simp
                        all_goals (try go_wp2_with (first | (go_at_call 29; refine (rSub_any _ _ _ _ _).mono ?_; rintro e w' ⟨x, y, hS, rfl, hb1⟩) | (go_at_call 28; refine (rSquare_any _ _ _).mono ?_; rintro e w' ⟨t, hD, rfl, hb1⟩)))
                        all_goals first | exact hK.out _ _ ⟨_, _, hS, rfl⟩ hb1 | exact hK.out _ _ ⟨_, _, _, hS, hD, rfl⟩ hb1 | exact hK.out _ _ ⟨_, _, _, _, hS, hD, fv_res .mul .f64 _ _ _, rfl⟩ (by first | exact bl_refl _ | exact bl_drewN (bl_refl _) _) | exact hK.out _ _ ⟨_, ⟨_, _, _, _, hS, hD, hMq, fv_res .add .f64 _ _ _⟩, rfl⟩ (by first | exact bl_refl _ | exact bl_drewN (bl_refl _) _) | exact hK.out _ _ ⟨_, hR, rfl⟩ (bl_refl _) | exact hK.out _ _ rfl (bl_refl _) | exact hK.out _ _ rfl (by assumption) | exact hK.out _ _ (by assumption) (by assumption)
                      · cases ho
                        simp only [Act.put, List.setIfInBounds_toArray, List.set_cons_zero, List.set_cons_succ] at hK
                        clear hs
                        go_simp
                        all_goals (try go_wp2_with (first | (go_at_call 29; refine (rSub_any _ _ _ _ _).mono ?_; rintro e w' ⟨x, y, hS, rfl, hb1⟩) | (go_at_call 28; refine (rSquare_any _ _ _).mono ?_; rintro e w' ⟨t, hD, rfl, hb1⟩)))
                        all_goals first | exact hK.out _ _ ⟨_, _, hS, rfl⟩ hb1 | exact hK.out _ _ ⟨_, _, _, hS, hD, rfl⟩ hb1 | exact hK.out _ _ ⟨_, _, _, _, hS, hD, fv_res .mul .f64 _ _ _, rfl⟩ (by first | exact bl_refl _ | exact bl_drewN (bl_refl _) _) | exact hK.out _ _ ⟨_, ⟨_, _, _, _, hS, hD, hMq, fv_res .add .f64 _ _ _⟩, rfl⟩ (by first | exact bl_refl _ | exact bl_drewN (bl_refl _) _) | exact hK.out _ _ ⟨_, hR, rfl⟩ (bl_refl _) | exact hK.out _ _ rfl (bl_refl _) | exact hK.out _ _ rfl (by assumption) | exact hK.out _ _ (by assumption) (by assumption)
                      · cases ho
                        simp only [Act.put, List.setIfInBounds_toArray, List.set_cons_zero, List.set_cons_succ] at hK
                        clear hs
                        go_simp
                        all_goals (try go_wp2_with (first | (go_at_call 29; refine (rSub_any _ _ _ _ _).mono ?_; rintro e w' ⟨x, y, hS, rfl, hb1⟩) | (go_at_call 28; refine (rSquare_any _ _ _).mono ?_; rintro e w' ⟨t, hD, rfl, hb1⟩)))
                        all_goals first | exact hK.out _ _ ⟨_, _, hS, rfl⟩ hb1 | exact hK.out _ _ ⟨_, _, _, hS, hD, rfl⟩ hb1 | exact hK.out _ _ ⟨_, _, _, _, hS, hD, fv_res .mul .f64 _ _ _, rfl⟩ (by first | exact bl_refl _ | exact bl_drewN (bl_refl _) _) | exact hK.out _ _ ⟨_, ⟨_, _, _, _, hS, hD, hMq, fv_res .add .f64 _ _ _⟩, rfl⟩ (by first | exact bl_refl _ | exact bl_drewN (bl_refl _) _) | exact hK.out _ _ ⟨_, hR, rfl⟩ (bl_refl _) | exact hK.out _ _ rfl (bl_refl _) | exact hK.out _ _ rfl (by assumption) | exact hK.out _ _ (by assumption) (by assumption)
                      · cases ho
                        have e5 : s 5 = _ := hs 5 (by decide) (by kernel_rfl)
                        have e6 : s 6 = _ := hs 6 (by decide) (by kernel_rfl)
                        simp only [e5, e6] at hK ⊢
                        simp only [Act.put, List.setIfInBounds_toArray, List.set_cons_zero, List.set_cons_succ] at hK
                        clear hs
                        go_simp
                        all_goals (try go_wp2_with (first | (go_at_call 29; refine (rSub_any _ _ _ _ _).mono ?_; rintro e w' ⟨x, y, hS, rfl, hb1⟩) | (go_at_call 28; refine (rSquare_any _ _ _).mono ?_; rintro e w' ⟨t, hD, rfl, hb1⟩)))
                        all_goals first | exact hK.out _ _ ⟨_, _, hS, rfl⟩ hb1 | exact hK.out _ _ ⟨_, _, _, hS, hD, rfl⟩ hb1 | exact hK.out _ _ ⟨_, _, _, _, hS, hD, fv_res .mul .f64 _ _ _, rfl⟩ (by first | exact bl_refl _ | exact bl_drewN (bl_refl _) _) | exact hK.out _ _ ⟨_, ⟨_, _, _, _, hS, hD, hMq, fv_res .add .f64 _ _ _⟩, rfl⟩ (by first | exact bl_refl _ | exact bl_drewN (bl_refl _) _) | exact hK.out _ _ ⟨_, hR, rfl⟩ (bl_refl _) | exact hK.out _ _ rfl (bl_refl _) | exact hK.out _ _ rfl (by assumption) | exact hK.out _ _ (by assumption) (by assumption)
                      · cases ho
                        have e7 : s 7 = _ := hs 7 (by decide) (by kernel_rfl)
                        simp only [e7] at hK ⊢
                        simp only [Act.put, List.setIfInBounds_toArray, List.set_cons_zero, List.set_cons_succ] at hK
                        clear hs
                        go_simp
                        all_goals (try go_wp2_with (first | (go_at_call 29; refine (rSub_any _ _ _ _ _).mono ?_; rintro e w' ⟨x, y, hS, rfl, hb1⟩) | (go_at_call 28; refine (rSquare_any _ _ _).mono ?_; rintro e w' ⟨t, hD, rfl, hb1⟩)))
                        all_goals first | exact hK.out _ _ ⟨_, _, hS, rfl⟩ hb1 | exact hK.out _ _ ⟨_, _, _, hS, hD, rfl⟩ hb1 | exact hK.out _ _ ⟨_, _, _, _, hS, hD, fv_res .mul .f64 _ _ _, rfl⟩ (by first | exact bl_refl _ | exact bl_drewN (bl_refl _) _) | exact hK.out _ _ ⟨_, ⟨_, _, _, _, hS, hD, hMq, fv_res .add .f64 _ _ _⟩, rfl⟩ (by first | exact bl_refl _ | exact bl_drewN (bl_refl _) _) | exact hK.out _ _ ⟨_, hR, rfl⟩ (bl_refl _) | exact hK.out _ _ rfl (bl_refl _) | exact hK.out _ _ rfl (by assumption) | exact hK.out _ _ (by assumption) (by assumption)
                      · cases ho
                        have e8 : s 8 = _ := hs 8 (by decide) (by kernel_rfl)
                        simp only [e8] at hK ⊢
                        simp only [Act.put, List.setIfInBounds_toArray, List.set_cons_zero, List.set_cons_succ] at hK
                        clear hs
                        go_simp
                        all_goals (try go_wp2_with (first | (go_at_call 29; refine (rSub_any _ _ _ _ _).mono ?_; rintro e w' ⟨x, y, hS, rfl, hb1⟩) | (go_at_call 28; refine (rSquare_any _ _ _).mono ?_; rintro e w' ⟨t, hD, rfl, hb1⟩)))
                        all_goals first | exact hK.out _ _ ⟨_, _, hS, rfl⟩ hb1 | exact hK.out _ _ ⟨_, _, _, hS, hD, rfl⟩ hb1 | exact hK.out _ _ ⟨_, _, _, _, hS, hD, fv_res .mul .f64 _ _ _, rfl⟩ (by first | exact bl_refl _ | exact bl_drewN (bl_refl _) _) | exact hK.out _ _ ⟨_, ⟨_, _, _, _, hS, hD, hMq, fv_res .add .f64 _ _ _⟩, rfl⟩ (by first | exact bl_refl _ | exact bl_drewN (bl_refl _) _) | exact hK.out _ _ ⟨_, hR, rfl⟩ (bl_refl _) | exact hK.out _ _ rfl (bl_refl _) | exact hK.out _ _ rfl (by assumption) | exact hK.out _ _ (by assumption) (by assumption)
                      · cases ho
                        simp only [Act.put, List.setIfInBounds_toArray, List.set_cons_zero, List.set_cons_succ] at hK
                        clear hs
                        go_simp
                        all_goals (try go_wp2_with (first | (go_at_call 29; refine (rSub_any _ _ _ _ _).mono ?_; rintro e w' ⟨x, y, hS, rfl, hb1⟩) | (go_at_call 28; refine (rSquare_any _ _ _).mono ?_; rintro e w' ⟨t, hD, rfl, hb1⟩)))
                        all_goals first | exact hK.out _ _ ⟨_, _, hS, rfl⟩ hb1 | exact hK.out _ _ ⟨_, _, _, hS, hD, rfl⟩ hb1 | exact hK.out _ _ ⟨_, _, _, _, hS, hD, fv_res .mul .f64 _ _ _, rfl⟩ (by first | exact bl_refl _ | exact bl_drewN (bl_refl _) _) | exact hK.out _ _ ⟨_, ⟨_, _, _, _, hS, hD, hMq, fv_res .add .f64 _ _ _⟩, rfl⟩ (by first | exact bl_refl _ | exact bl_drewN (bl_refl _) _) | exact hK.out _ _ ⟨_, hR, rfl⟩ (bl_refl _) | exact hK.out _ _ rfl (bl_refl _) | exact hK.out _ _ rfl (by assumption) | exact hK.out _ _ (by assumption) (by assumption)
                      · cases ho
                        simp only [Act.put, List.setIfInBounds_toArray, List.set_cons_zero, List.set_cons_succ] at hK
                        clear hs
                        go_simp
                        all_goals (try go_wp2_with (first | (go_at_call 29; refine (rSub_any _ _ _ _ _).mono ?_; rintro e w' ⟨x, y, hS, rfl, hb1⟩) | (go_at_call 28; refine (rSquare_any _ _ _).mono ?_; rintro e w' ⟨t, hD, rfl, hb1⟩)))
                        all_goals first | exact hK.out _ _ ⟨_, _, hS, rfl⟩ hb1 | exact hK.out _ _ ⟨_, _, _, hS, hD, rfl⟩ hb1 | exact hK.out _ _ ⟨_, _, _, _, hS, hD, fv_res .mul .f64 _ _ _, rfl⟩ (by first | exact bl_refl _ | exact bl_drewN (bl_refl _) _) | exact hK.out _ _ ⟨_, ⟨_, _, _, _, hS, hD, hMq, fv_res .add .f64 _ _ _⟩, rfl⟩ (by first | exact bl_refl _ | exact bl_drewN (bl_refl _) _) | exact hK.out _ _ ⟨_, hR, rfl⟩ (bl_refl _) | exact hK.out _ _ rfl (bl_refl _) | exact hK.out _ _ rfl (by assumption) | exact hK.out _ _ (by assumption) (by assumption)
                      · cases ho
                        have e10 : s 10 = _ := hs 10 (by decide) (by kernel_rfl)
                        have e11 : s 11 = _ := hs 11 (by decide) (by kernel_rfl)
                        simp only [e10, e11] at hK ⊢
                        simp only [Act.put, List.setIfInBounds_toArray, List.set_cons_zero, List.set_cons_succ] at hK
                        clear hs
                        go_simp
                        all_goals (try go_wp2_with (first | (go_at_call 29; refine (rSub_any _ _ _ _ _).mono ?_; rintro e w' ⟨x, y, hS, rfl, hb1⟩) | (go_at_call 28; refine (rSquare_any _ _ _).mono ?_; rintro e w' ⟨t, hD, rfl, hb1⟩)))
                        all_goals first | exact hK.out _ _ ⟨_, _, hS, rfl⟩ hb1 | exact hK.out _ _ ⟨_, _, _, hS, hD, rfl⟩ hb1 | exact hK.out _ _ ⟨_, _, _, _, hS, hD, fv_res .mul .f64 _ _ _, rfl⟩ (by first | exact bl_refl _ | exact bl_drewN (bl_refl _) _) | exact hK.out _ _ ⟨_, ⟨_, _, _, _, hS, hD, hMq, fv_res .add .f64 _ _ _⟩, rfl⟩ (by first | exact bl_refl _ | exact bl_drewN (bl_refl _) _) | exact hK.out _ _ ⟨_, hR, rfl⟩ (bl_refl _) | exact hK.out _ _ rfl (bl_refl _) | exact hK.out _ _ rfl (by assumption) | exact hK.out _ _ (by assumption) (by assumption)
                      · cases ho
                        have e12 : s 12 = _ := hs 12 (by decide) (by kernel_rfl)
                        simp only [e12] at hK ⊢
                        simp only [Act.put, List.setIfInBounds_toArray, List.set_cons_zero, List.set_cons_succ] at hK
                        clear hs
                        go_simp
                        all_goals (try go_wp2_with (first | (go_at_call 29; refine (rSub_any _ _ _ _ _).mono ?_; rintro e w' ⟨x, y, hS, rfl, hb1⟩) | (go_at_call 28; refine (rSquare_any _ _ _).mono ?_; rintro e w' ⟨t, hD, rfl, hb1⟩)))
                        all_goals first | exact hK.out _ _ ⟨_, _, hS, rfl⟩ hb1 | exact hK.out _ _ ⟨_, _, _, hS, hD, rfl⟩ hb1 | exact hK.out _ _ ⟨_, _, _, _, hS, hD, fv_res .mul .f64 _ _ _, rfl⟩ (by first | exact bl_refl _ | exact bl_drewN (bl_refl _) _) | exact hK.out _ _ ⟨_, ⟨_, _, _, _, hS, hD, hMq, fv_res .add .f64 _ _ _⟩, rfl⟩ (by first | exact bl_refl _ | exact bl_drewN (bl_refl _) _) | exact hK.out _ _ ⟨_, hR, rfl⟩ (bl_refl _) | exact hK.out _ _ rfl (bl_refl _) | exact hK.out _ _ rfl (by assumption) | exact hK.out _ _ (by assumption) (by assumption)
                      · cases ho
                        have e13 : s 13 = _ := hs 13 (by decide) (by kernel_rfl)
                        simp only [e13] at hK ⊢
                        simp only [Act.put, List.setIfInBounds_toArray, List.set_cons_zero, List.set_cons_succ] at hK
                        clear hs
                        go_simp
                        all_goals (try go_wp2_with (first | (go_at_call 29; refine (rSub_any _ _ _ _ _).mono ?_; rintro e w' ⟨x, y, hS, rfl, hb1⟩) | (go_at_call 28; refine (rSquare_any _ _ _).mono ?_; rintro e w' ⟨t, hD, rfl, hb1⟩)))
                        all_goals first | exact hK.out _ _ ⟨_, _, hS, rfl⟩ hb1 | exact hK.out _ _ ⟨_, _, _, hS, hD, rfl⟩ hb1 | exact hK.out _ _ ⟨_, _, _, _, hS, hD, fv_res .mul .f64 _ _ _, rfl⟩ (by first | exact bl_refl _ | exact bl_drewN (bl_refl _) _) | exact hK.out _ _ ⟨_, ⟨_, _, _, _, hS, hD, hMq, fv_res .add .f64 _ _ _⟩, rfl⟩ (by first | exact bl_refl _ | exact bl_drewN (bl_refl _) _) | exact hK.out _ _ ⟨_, hR, rfl⟩ (bl_refl _) | exact hK.out _ _ rfl (bl_refl _) | exact hK.out _ _ rfl (by assumption) | exact hK.out _ _ (by assumption) (by assumption)
                      · cases ho
                        simp only [Act.put, List.setIfInBounds_toArray, List.set_cons_zero, List.set_cons_succ] at hK
                        clear hs
                        go_simp
                        all_goals (try go_wp2_with (first | (go_at_call 29; refine (rSub_any _ _ _ _ _).mono ?_; rintro e w' ⟨x, y, hS, rfl, hb1⟩) | (go_at_call 28; refine (rSquare_any _ _ _).mono ?_; rintro e w' ⟨t, hD, rfl, hb1⟩)))
                        all_goals first | exact hK.out _ _ ⟨_, _, hS, rfl⟩ hb1 | exact hK.out _ _ ⟨_, _, _, hS, hD, rfl⟩ hb1 | exact hK.out _ _ ⟨_, _, _, _, hS, hD, fv_res .mul .f64 _ _ _, rfl⟩ (by first | exact bl_refl _ | exact bl_drewN (bl_refl _) _) | exact hK.out _ _ ⟨_, ⟨_, _, _, _, hS, hD, hMq, fv_res .add .f64 _ _ _⟩, rfl⟩ (by first | exact bl_refl _ | exact bl_drewN (bl_refl _) _) | exact hK.out _ _ ⟨_, hR, rfl⟩ (bl_refl _) | exact hK.out _ _ rfl (bl_refl _) | exact hK.out _ _ rfl (by assumption) | exact hK.out _ _ (by assumption) (by assumption)
                      · cases ho
                        have e15 : s 15 = _ := hs 15 (by decide) (by kernel_rfl)
                        simp only [e15] at hK ⊢
                        simp only [Act.put, List.setIfInBounds_toArray, List.set_cons_zero, List.set_cons_succ] at hK
                        clear hs
                        go_simp
                        all_goals (try go_wp2_with (first | (go_at_call 29; refine (rSub_any _ _ _ _ _).mono ?_; rintro e w' ⟨x, y, hS, rfl, hb1⟩) | (go_at_call 28; refine (rSquare_any _ _ _).mono ?_; rintro e w' ⟨t, hD, rfl, hb1⟩)))
                        all_goals first | exact hK.out _ _ ⟨_, _, hS, rfl⟩ hb1 | exact hK.out _ _ ⟨_, _, _, hS, hD, rfl⟩ hb1 | exact hK.out _ _ ⟨_, _, _, _, hS, hD, fv_res .mul .f64 _ _ _, rfl⟩ (by first | exact bl_refl _ | exact bl_drewN (bl_refl _) _) | exact hK.out _ _ ⟨_, ⟨_, _, _, _, hS, hD, hMq, fv_res .add .f64 _ _ _⟩, rfl⟩ (by first | exact bl_refl _ | exact bl_drewN (bl_refl _) _) | exact hK.out _ _ ⟨_, hR, rfl⟩ (bl_refl _) | exact hK.out _ _ rfl (bl_refl _) | exact hK.out _ _ rfl (by assumption) | exact hK.out _ _ (by assumption) (by assumption)
                      · cases ho
                        have e14 : s 14 = _ := hs 14 (by decide) (by kernel_rfl)
                        have e16 : s 16 = _ := hs 16 (by decide) (by kernel_rfl)
                        simp only [e14, e16] at hK ⊢
                        simp only [Act.put, List.setIfInBounds_toArray, List.set_cons_zero, List.set_cons_succ] at hK
                        clear hs
                        go_simp
                        all_goals (try go_wp2_with (first | (go_at_call 29; refine (rSub_any _ _ _ _ _).mono ?_; rintro e w' ⟨x, y, hS, rfl, hb1⟩) | (go_at_call 28; refine (rSquare_any _ _ _).mono ?_; rintro e w' ⟨t, hD, rfl, hb1⟩)))
                        all_goals first | exact hK.out _ _ ⟨_, _, hS, rfl⟩ hb1 | exact hK.out _ _ ⟨_, _, _, hS, hD, rfl⟩ hb1 | exact hK.out _ _ ⟨_, _, _, _, hS, hD, fv_res .mul .f64 _ _ _, rfl⟩ (by first | exact bl_refl _ | exact bl_drewN (bl_refl _) _) | exact hK.out _ _ ⟨_, ⟨_, _, _, _, hS, hD, hMq, fv_res .add .f64 _ _ _⟩, rfl⟩ (by first | exact bl_refl _ | exact bl_drewN (bl_refl _) _) | exact hK.out _ _ ⟨_, hR, rfl⟩ (bl_refl _) | exact hK.out _ _ rfl (bl_refl _) | exact hK.out _ _ rfl (by assumption) | exact hK.out _ _ (by assumption) (by assumption)
                      · cases ho
                        obtain ⟨x, y, hS, e17⟩ := hs 17 (by decide) (by kernel_rfl)
                        simp only [e17] at hK ⊢
                        simp only [Act.put, List.setIfInBounds_toArray, List.set_cons_zero, List.set_cons_succ] at hK
                        clear hs
                        go_simp
                        all_goals (try go_wp2_with (first | (go_at_call 29; refine (rSub_any _ _ _ _ _).mono ?_; rintro e w' ⟨x, y, hS, rfl, hb1⟩) | (go_at_call 28; refine (rSquare_any _ _ _).mono ?_; rintro e w' ⟨t, hD, rfl, hb1⟩)))
                        all_goals first | exact hK.out _ _ ⟨_, _, hS, rfl⟩ hb1 | exact hK.out _ _ ⟨_, _, _, hS, hD, rfl⟩ hb1 | exact hK.out _ _ ⟨_, _, _, _, hS, hD, fv_res .mul .f64 _ _ _, rfl⟩ (by first | exact bl_refl _ | exact bl_drewN (bl_refl _) _) | exact hK.out _ _ ⟨_, ⟨_, _, _, _, hS, hD, hMq, fv_res .add .f64 _ _ _⟩, rfl⟩ (by first | exact bl_refl _ | exact bl_drewN (bl_refl _) _) | exact hK.out _ _ ⟨_, hR, rfl⟩ (bl_refl _) | exact hK.out _ _ rfl (bl_refl _) | exact hK.out _ _ rfl (by assumption) | exact hK.out _ _ (by assumption) (by assumption)
                      · cases ho
                        have e9 : s 9 = _ := hs 9 (by decide) (by kernel_rfl)
                        obtain ⟨x, y, t, hS, hD, e18⟩ := hs 18 (by decide) (by kernel_rfl)
                        simp only [e9, e18] at hK ⊢
                        simp only [Act.put, List.setIfInBounds_toArray, List.set_cons_zero, List.set_cons_succ] at hK
                        clear hs
                        go_simp
                        all_goals (try go_wp2_with (first | (go_at_call 29; refine (rSub_any _ _ _ _ _).mono ?_; rintro e w' ⟨x, y, hS, rfl, hb1⟩) | (go_at_call 28; refine (rSquare_any _ _ _).mono ?_; rintro e w' ⟨t, hD, rfl, hb1⟩)))
                        all_goals first | exact hK.out _ _ ⟨_, _, hS, rfl⟩ hb1 | exact hK.out _ _ ⟨_, _, _, hS, hD, rfl⟩ hb1 | exact hK.out _ _ ⟨_, _, _, _, hS, hD, fv_res .mul .f64 _ _ _, rfl⟩ (by first | exact bl_refl _ | exact bl_drewN (bl_refl _) _) | exact hK.out _ _ ⟨_, ⟨_, _, _, _, hS, hD, hMq, fv_res .add .f64 _ _ _⟩, rfl⟩ (by first | exact bl_refl _ | exact bl_drewN (bl_refl _) _) | exact hK.out _ _ ⟨_, hR, rfl⟩ (bl_refl _) | exact hK.out _ _ rfl (bl_refl _) | exact hK.out _ _ rfl (by assumption) | exact hK.out _ _ (by assumption) (by assumption)
                      · cases ho
                        have e4 : s 4 = _ := hs 4 (by decide) (by kernel_rfl)
                        obtain ⟨x, y, t, q, hS, hD, hMq, e19⟩ := hs 19 (by decide) (by kernel_rfl)
                        simp only [e4, e19] at hK ⊢
                        simp only [Act.put, List.setIfInBounds_toArray, List.set_cons_zero, List.set_cons_succ] at hK
                        clear hs
                        go_simp
                        all_goals (try go_wp2_with (first | (go_at_call 29; refine (rSub_any _ _ _ _ _).mono ?_; rintro e w' ⟨x, y, hS, rfl, hb1⟩) | (go_at_call 28; refine (rSquare_any _ _ _).mono ?_; rintro e w' ⟨t, hD, rfl, hb1⟩)))
                        all_goals first | exact hK.out _ _ ⟨_, _, hS, rfl⟩ hb1 | exact hK.out _ _ ⟨_, _, _, hS, hD, rfl⟩ hb1 | exact hK.out _ _ ⟨_, _, _, _, hS, hD, fv_res .mul .f64 _ _ _, rfl⟩ (by first | exact bl_refl _ | exact bl_drewN (bl_refl _) _) | exact hK.out _ _ ⟨_, ⟨_, _, _, _, hS, hD, hMq, fv_res .add .f64 _ _ _⟩, rfl⟩ (by first | exact bl_refl _ | exact bl_drewN (bl_refl _) _) | exact hK.out _ _ ⟨_, hR, rfl⟩ (bl_refl _) | exact hK.out _ _ rfl (bl_refl _) | exact hK.out _ _ rfl (by assumption) | exact hK.out _ _ (by assumption) (by assumption)
                      · cases ho
                        obtain ⟨r, hR, e20⟩ := hs 20 (by decide) (by kernel_rfl)
                        simp only [e20] at hK ⊢
                        simp only [Act.put, List.setIfInBounds_toArray, List.set_cons_zero, List.set_cons_succ] at hK
                        clear hs
                        go_simp
                        all_goals (try go_wp2_with (first | (go_at_call 29; refine (rSub_any _ _ _ _ _).mono ?_; rintro e w' ⟨x, y, hS, rfl, hb1⟩) | (go_at_call 28; refine (rSquare_any _ _ _).mono ?_; rintro e w' ⟨t, hD, rfl, hb1⟩)))
                        all_goals first | exact hK.out _ _ ⟨_, _, hS, rfl⟩ hb1 | exact hK.out _ _ ⟨_, _, _, hS, hD, rfl⟩ hb1 | exact hK.out _ _ ⟨_, _, _, _, hS, hD, fv_res .mul .f64 _ _ _, rfl⟩ (by first | exact bl_refl _ | exact bl_drewN (bl_refl _) _) | exact hK.out _ _ ⟨_, ⟨_, _, _, _, hS, hD, hMq, fv_res .add .f64 _ _ _⟩, rfl⟩ (by first | exact bl_refl _ | exact bl_drewN (bl_refl _) _) | exact hK.out _ _ ⟨_, hR, rfl⟩ (bl_refl _) | exact hK.out _ _ rfl (bl_refl _) | exact hK.out _ _ rfl (by assumption) | exact hK.out _ _ (by assumption) (by assumption)
                    case ht_w27 =>
                      intro s hs W hb hJ
                      have e0 : s 0 = _ := hs 0 (by decide)
                      have e1 : s 1 = _ := hs 1 (by decide)
                      have e2 : s 2 = _ := hs 2 (by decide)
                      have e3 : s 3 = _ := hs 3 (by decide)
                      have e4 : s 4 = _ := hs 4 (by decide)
                      have e5 : s 5 = _ := hs 5 (by decide)
                      have e6 : s 6 = _ := hs 6 (by decide)
                      have e7 : s 7 = _ := hs 7 (by decide)
                      have e8 : s 8 = _ := hs 8 (by decide)
                      have e9 : s 9 = _ := hs 9 (by decide)
                      have e10 : s 10 = _ := hs 10 (by decide)
                      have e11 : s 11 = _ := hs 11 (by decide)
                      have e12 : s 12 = _ := hs 12 (by decide)
                      have e13 : s 13 = _ := hs 13 (by decide)
                      have e14 : s 14 = _ := hs 14 (by decide)
                      have e15 : s 15 = _ := hs 15 (by decide)
                      have e16 : s 16 = _ := hs 16 (by decide)
                      obtain ⟨_, _, _, e17⟩ := hs 17 (by decide)
                      obtain ⟨_, _, _, _, _, e18⟩ := hs 18 (by decide)
                      obtain ⟨_, _, _, _, _, _, _, e19⟩ := hs 19 (by decide)
                      obtain ⟨_, _, e20⟩ := hs 20 (by decide)
                      obtain ⟨t, hT, e21⟩ := hs 21 (by decide)
                      simp only [e0, e1, e2, e3, e4, e5, e6, e7, e8, e9, e10, e11, e12, e13, e14, e15, e16, e17, e18, e19, e20, e21]
                      clear hs
                      refine tail_end ?_
                      have w0 := keep hb c1'
                      have fW : ∀ o, W.frozen? ⟨c, o, none⟩ = false := fun o => (hb.2 _).trans (fC o)
                      have lcW := World.block_lt_of_cell? _ _ w0
                      simp only at lcW
                      by_cases hk0 : k = 0
                      · have hkI : ((k : Int) == 0) = true := by rw [hk0]; rfl
                        have hkH := hide hk0
                        clear hk0
                        go_wp2
                        refine ⟨⟨k + 1, _, fun q => if q = k then t else ti q, by omega, by go_num, bl_set (bl_trans hB hb) n0, ?_, .inr ⟨by omega, ?_⟩, (set_away (by decide)).trans (keep hb c0), World.cell?_setCell_same _ _ _ (keep hb c1'), (set_away (by decide)).trans (keep hb c2), (set_away (by decide)).trans (keep hb c3), up_set2 n1.symm (keep hb z0), up_set2 n1.symm (keep hb z1), up_set2 n1.symm (keep hb z2), up_set2 n1.symm (keep hb z3)⟩, by simp [intOf]; omega⟩
                        · intro q hq
                          by_cases e : q = k
                          · subst e; simp only [if_true]; exact hT
                          · simp only [if_neg e]; exact hti q (by omega)
                        · have hk0 := unhide hkH
                          subst hk0
                          exact accR_zero _ _
                      · have hkI : ¬ (k : Int) = 0 := by omega
                        have q5 := run_add Try.prog
                        go_wp2
                        refine ⟨⟨k + 1, _, fun q => if q = k then t else ti q, by omega, by go_num, bl_drewN (bl_set (bl_trans hB hb) n0) _, ?_, .inr ⟨by omega, ?_⟩, (set_away (by decide)).trans (keep hb c0), World.cell?_setCell_same _ _ _ (keep hb c1'), (set_away (by decide)).trans (keep hb c2), (set_away (by decide)).trans (keep hb c3), up_set2 n1.symm (keep hb z0), up_set2 n1.symm (keep hb z1), up_set2 n1.symm (keep hb z2), up_set2 n1.symm (keep hb z3)⟩, by simp [intOf]; omega⟩
                        · intro q hq
                          by_cases e : q = k
                          · subst e; simp only [if_true]; exact hT
                          · simp only [if_neg e]; exact hti q (by omega)
                        · rcases unhide hacH with h | ⟨_, hac⟩
                          · exact absurd h hk0
                          exact acc_more (by omega) hac (fv_res .add .f64 _ _ _)
                  · have hqn : n = k := by omega
                    subst hqn
                    rcases hac with h | ⟨_, hac⟩
                    · omega
                    go_wp2_with (first | (go_at_call 30; refine (rtold_any _ _ _ _ hq1.1 hq2.1 _).mono ?_; rintro e w_6 ⟨m1, j1, x1, y1, e1, hTo, rfl, hb⟩; have B6 := bl_trans hB hb; have f6 : ∀ o, w_6.frozen? ⟨w.heap.size, o, none⟩ = false := fun o => (hb.2 _).trans (fR o); have v0 := keep hb z0; have v1 := keep hb z1; have v2 := keep hb z2; have v3 := keep hb z3))
                    obtain ⟨R0, R1, R2, R3⟩ := set4_at (p := .float .f64 m1) (q := .float .f64 j1) (r := .float .f64 x1) (s := .float .f64 y1) v0 v1 v2 v3
                    refine bodyPost_ret (v := .tuple #[.agg #[.float .f64 m1, .float .f64 j1, .float .f64 x1, .float .f64 y1], .int .i64 e1]) (by simp [R0, R1, R2, R3, results, Try.results7, go_sem] <;> (first | exact ⟨⟨rfl, rfl, rfl, rfl⟩, rfl⟩ | exact ⟨rfl, rfl, rfl, rfl, rfl⟩ | exact ⟨rfl, rfl⟩ | rfl)) rfl ⟨_, _, _, _, _, .inr (.inr (.inr (.inr ⟨by have := unhide h1H; omega, by omega, hall, _, hSM, .inr ⟨hz, _, _, _, _, _, hSX, hSY, hq1, hq2, ⟨ti, hti, hac⟩, hTo⟩⟩))), rfl, ?_⟩
                    repeat (first | exact B6 | refine bl_set ?_ (by simp <;> omega))
              · go_wp2
                obtain ⟨R0, R1, R2, R3⟩ := set4_at (p := .float .f64 0) (q := .float .f64 0) (r := .float .f64 0) (s := .float .f64 0) z0 z1 z2 z3
                refine bodyPost_ret (v := .tuple #[.agg #[.float .f64 0, .float .f64 0, .float .f64 0, .float .f64 0], .int .i64 0]) (by simp [R0, R1, R2, R3, results, Try.results7, go_sem] <;> (first | exact ⟨⟨rfl, rfl, rfl, rfl⟩, rfl⟩ | exact ⟨rfl, rfl, rfl, rfl, rfl⟩ | exact ⟨rfl, rfl⟩ | rfl)) rfl ⟨_, _, _, _, _, .inr (.inr (.inr (.inr ⟨by have := unhide h1H; omega, by omega, hall, _, hSM, .inl ⟨hz, rfl, rfl, rfl, rfl, rfl⟩⟩))), rfl, ?_⟩
                repeat (first | exact hB | refine bl_set ?_ (by simp <;> omega))

theorem rj_loop2 : True := trivial

end Go.Proofs.Ytoofbfjlgablkaa
