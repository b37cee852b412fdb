/-
  What each function of package poly answers, and what the reference of its chapter answers: one contract a function, for every float: the answer stands in the relation of its formula to what was given; of the memory that was there nothing has turned.
-/
import Derived.Test.YtpedpgpgcmhnoaaVec
import Derived.Test.YtpedpgpgcmhnoaaCe
import Derived.Test.YtpedpgpgcmhnoaaPm
import Derived.Below
import Derived.Laws.StructEq
import Derived.WalkKit
import Derived.WalkLawsBesides
import Derived.WalkSpells
import Derived.ProofKit
import Derived.OpenShut
import Derived.Deep.RegionHeld3
namespace Go.Proofs.Ytpedpgpgcmhnoaa
open Go.ChangeShapes Go.WideShapes Go.ChangeAt Go.RowKit
set_option linter.unusedVariables false
set_option linter.unusedSimpArgs false


theorem run_eqv (ax ay bx b_y : Nat) (W : World) : (binOp .eql 24 (.agg #[.float .f64 ax, .float .f64 ay]) (.agg #[.float .f64 bx, .float .f64 b_y])).run Try.prog W = .ok (.bool (eqK .f64 ax bx && eqK .f64 ay b_y)) W := by
  have c1 := cmp_eq .f64
  have q1 := fun (x y : Nat) (w : World) => run_equalIn_float Try.prog w 22 .f64 x y Try.underlying22
  have q3 := fun (d x y : Nat) (w : World) => run_equalIn_fl Try.prog w d 22 .f64 x y Try.underlying22
  have q4 := fun (x y : Nat) (w : World) => run_equalIn_fl Try.prog w 9997 22 .f64 x y Try.underlying22
  cases h1 : eqK .f64 ax bx
  all_goals cases h2 : eqK .f64 ay b_y
  all_goals simp [go_sem, q1, q3, q4, h1, h2]

theorem run_nev (ax ay bx b_y : Nat) (W : World) : (binOp .neq 24 (.agg #[.float .f64 ax, .float .f64 ay]) (.agg #[.float .f64 bx, .float .f64 b_y])).run Try.prog W = .ok (.bool (!(eqK .f64 ax bx && eqK .f64 ay b_y))) W := by
  have c1 := cmp_eq .f64
  have q1 := fun (x y : Nat) (w : World) => run_equalIn_float Try.prog w 22 .f64 x y Try.underlying22
  have q3 := fun (d x y : Nat) (w : World) => run_equalIn_fl Try.prog w d 22 .f64 x y Try.underlying22
  have q4 := fun (x y : Nat) (w : World) => run_equalIn_fl Try.prog w 9997 22 .f64 x y Try.underlying22
  cases h1 : eqK .f64 ax bx
  all_goals cases h2 : eqK .f64 ay b_y
  all_goals simp [go_sem, q1, q3, q4, h1, h2]
set_option maxHeartbeats 4000000 in
theorem compact9_d (b off n cap : Nat) (L : List Pt) (w : World) (hl : L.length = n) (hs : Sl w b off n (px L) (py L)) (hp : 0 < n) (hn : n ≤ 16000000000000) (hcap : n ≤ cap) (W0 : World) (fb : W0.heap.size ≤ b) (B0 : Bel W0 w) :
    Calls Try.prog 110 #[.slice (some ⟨b, off, none⟩) n cap] w fun e w' => e = .returned (.slice (some ⟨b, off, none⟩) (dd L n).length cap) ∧ Mo b w w' ∧ Sl w' b off (dd L n).length (px (dd L n)) (py (dd L n)) := by
  have qe := run_eqv
  have qn := run_nev
  by_cases h2 : n < 2
  · have n1 : n = 1 := by omega
    subst n1
    go_enter Try.func110, Try.ntmps110
    go_wp2
    go_ret
    refine ⟨by rw [dd_one]; rfl, Mo.refl _ _, ?_⟩
    rw [dd_one]
    exact hs.eq (fun i hi => by rw [show i = 0 by omega]; rfl) (fun i hi => by rw [show i = 0 by omega]; rfl)
  · have n2 : ¬ (n : Int) < 2 := by omega
    have EX : ∀ j, j < n * 2 → (w.cell? ⟨b, off + j, none⟩).isSome = true := fun j hj => by
      obtain ⟨e1, e2⟩ := hs (j / 2) (by omega)
      rcases Nat.mod_two_eq_zero_or_one j with h | h
      · rw [show off + j / 2 * 2 = off + j by omega] at e1; rw [e1]; rfl
      · rw [show off + j / 2 * 2 + 1 = off + j by omega] at e2; rw [e2]; rfl
    go_enter Try.func110, Try.ntmps110
    go_wp2
    go_loopw [3] (fun k' wr => ∃ k : Nat, 1 ≤ k ∧ k ≤ n ∧ (dd L k).length = k ∧ (∀ i, i < k → pt (dd L k) i = pt L i) ∧ k' = .int .i64 k ∧ Mo b w wr ∧ Sl wr b off n (px L) (py L) ∧ ∀ j, j < n * 2 → (wr.cell? ⟨b, off + j, none⟩).isSome = true) (fun k' _ => n - (intOf k').toNat)
    case atStart => exact ⟨1, by omega, by omega, by rw [dd_one]; rfl, fun i hi => by rw [dd_one, show i = 0 by omega]; rfl, rfl, Mo.refl _ _, hs, EX⟩
    case round =>
      clear EX
      obtain ⟨k, hk1, hk, hdl, hdp, rfl, hM, hR, EX⟩ := hrel
      by_cases hlt : k < n
      · have k1 : (k : Int) < (n : Int) := by omega
        obtain ⟨q, hq⟩ : ∃ q, q + 1 = k := ⟨k - 1, by omega⟩
        have j3 : (k : Int) - 1 = (q : Int) := by omega
        have wj : IntKind.wrap .i64 (q : Int) = (q : Int) := by rw [IntKind.wrap_i64]; omega
        have wk : IntKind.wrap .i64 ((k : Int) + 1) = (k : Int) + 1 := by rw [IntKind.wrap_i64]; omega
        have q1 : (q : Int) < (n : Int) := by omega
        obtain ⟨x0, x1⟩ := hR k (by omega)
        obtain ⟨x2, x3⟩ := hR q (by omega)
        haveI := belBy_some wr
        have y0 := belBy_cell x0
        have y1 := belBy_cell x1
        have y2 := belBy_cell x2
        have y3 := belBy_cell x3
        cases hc : (eqK .f64 (px L k) (px L q) && eqK .f64 (py L k) (py L q))
        all_goals
          go_wp2
          refine wp_region_quiet_bel (by kernel_rfl) (by kernel_rfl) ?_
          repeat (go_big_quiet_step (fail))
          refine wpQuiet_nil ?_
          rintro _ ⟨nq, rfl⟩
          (try simp only [hc])
        · have hc' : eqP (pt L k) (pt L (k - 1)) = false := by rw [show k - 1 = q by omega]; exact hc
          go_wp2
          refine ⟨⟨k + 1, by omega, by omega, by rw [dd_ne hc']; simp [hdl], fun i hi => ?_, by go_num, hM.on nq.h, hR.bel nq.h, fun j hj => some_bel nq.h (EX j hj)⟩, by simp [intOf]; omega⟩
          rw [dd_ne hc']
          by_cases e : i = k
          · have e2 := pt_end (dd L k) (pt L k)
            rw [hdl] at e2
            rw [e]; exact e2
          · rw [pt_app1 _ _ (by omega)]; exact hdp i (by omega)
        · have hc' : eqP (pt L k) (pt L (k - 1)) = true := by rw [show k - 1 = q by omega]; exact hc
          have hdk := dd_eq hk1 hc'
          clear y0 y1 y2 y3 x0 x1 x2 x3
          go_wp2
          go_loopw [5, 3] (fun c' m' wr => ∃ c m r : Nat, k + c = r ∧ 1 ≤ c ∧ r ≤ n ∧ (dd L r).length = m ∧ m + 1 ≤ r ∧ c' = .int .i64 c ∧ m' = .int .i64 m ∧ Mo b w wr ∧ Sl wr b off m (px (dd L r)) (py (dd L r)) ∧ (∀ i, r ≤ i + 1 → i < n → wr.cell? ⟨b, off + i * 2, none⟩ = some (.float .f64 (px L i)) ∧ wr.cell? ⟨b, off + i * 2 + 1, none⟩ = some (.float .f64 (py L i))) ∧ ∀ j, j < n * 2 → (wr.cell? ⟨b, off + j, none⟩).isSome = true) (fun c' _ _ => n - (intOf c').toNat)
          case atStart =>
            refine ⟨1, k, k + 1, rfl, Nat.le_refl _, by omega, by rw [hdk, hdl], by omega, rfl, rfl, hM.on nq.h, ?_, fun i _ hi => (hR.bel nq.h) i hi, fun j hj => some_bel nq.h (EX j hj)⟩
            rw [hdk]
            exact ((hR.bel nq.h).lt_ (by omega)).eq (fun i hi => (px_pt (hdp i hi)).symm) (fun i hi => (py_pt (hdp i hi)).symm)
          case round =>
            clear hM hR EX
            obtain ⟨c, m, r, hcr, hc1, hr, hml, hmr, rfl, rfl, hM, hD, hT, EX⟩ := hrel
            have nk : ((n - k : Nat) : Int) = (n : Int) - (k : Int) := by omega
            have FQ : ∀ o, wr.frozen? ⟨b, o, none⟩ = false := fun o => (hM.fz _).trans ((B0.2 _).trans (fresh_frozen fb))
            by_cases hlt2 : r < n
            · have c1 : (c : Int) < ((n - k : Nat) : Int) := by omega
              have c2 : c < n - k := by omega
              obtain ⟨p, hp'⟩ : ∃ p, p + 1 = c := ⟨c - 1, by omega⟩
              have j4 : (c : Int) - 1 = (p : Int) := by omega
              have wp : IntKind.wrap .i64 (p : Int) = (p : Int) := by rw [IntKind.wrap_i64]; omega
              have wc : IntKind.wrap .i64 ((c : Int) + 1) = (c : Int) + 1 := by rw [IntKind.wrap_i64]; omega
              have wm : IntKind.wrap .i64 ((m : Int) + 1) = (m : Int) + 1 := by rw [IntKind.wrap_i64]; omega
              have p1 : (p : Int) < ((n - k : Nat) : Int) := by omega
              have p2 : p < n - k := by omega
              have m1 : (m : Int) < (n : Int) := by omega
              have m2 : m < n := by omega
              obtain ⟨x0, x1⟩ := hT r (by omega) hlt2
              obtain ⟨x2, x3⟩ := hT (r - 1) (by omega) (by omega)
              rw [show off + r * 2 = off + k * 2 + c * 2 by omega] at x0 x1
              rw [show off + (r - 1) * 2 = off + k * 2 + p * 2 by omega] at x2 x3
              have lq := World.block_lt_of_cell? _ _ x0
              simp only at lq
              haveI := belBy_some wr
              have y0 := belBy_cell x0
              have y1 := belBy_cell x1
              have y2 := belBy_cell x2
              have y3 := belBy_cell x3
              cases hc2 : (eqK .f64 (px L r) (px L (r - 1)) && eqK .f64 (py L r) (py L (r - 1)))
              all_goals
                go_wp2
                refine wp_region_quiet_bel (by kernel_rfl) (by kernel_rfl) ?_
                repeat (go_big_quiet_step (fail))
                refine wpQuiet_nil ?_
                rintro _ ⟨n2, rfl⟩
                (try simp only [hc2])
              · have hdd := dd_ne (L := L) (i := r) hc2
                have z0 := keep n2.h x0
                have z1 := keep n2.h x1
                have FQ2 : ∀ o, n2.world.frozen? ⟨b, o, none⟩ = false := fun o => (n2.h.2 _).trans (FQ o)
                obtain ⟨v0, hv0⟩ := Option.isSome_iff_exists.1 (some_bel n2.h (EX (m * 2) (by omega)))
                obtain ⟨v1, hv1⟩ := Option.isSome_iff_exists.1 (some_bel n2.h (EX (m * 2 + 1) (by omega)))
                rw [← Nat.add_assoc] at hv1
                have lq2 := World.block_lt_of_cell? _ _ z0
                simp only at lq2
                go_wp2
                have hP := Sl.put (p := pt L r) hml (hD.bel n2.h) (by rw [hv0]; rfl) (by rw [hv1]; rfl)
                refine ⟨⟨c + 1, m + 1, r + 1, by omega, by omega, by omega, by rw [hdd]; simp [hml], by omega, by go_num, by go_num, ((hM.on n2.h).set).set, by rw [hdd]; exact hP, fun i hi1 hi2 => ?_, fun j hj => some_set (some_set (some_bel n2.h (EX j hj)))⟩, by simp [intOf]; omega⟩
                obtain ⟨t0, t1⟩ := hT i (by omega) hi2
                exact ⟨cell_apart (by omega) (cell_apart (by omega) (keep n2.h t0)), cell_apart (by omega) (cell_apart (by omega) (keep n2.h t1))⟩
              · have hdd := dd_eq (L := L) (i := r) (by omega) hc2
                go_wp2
                exact ⟨⟨c + 1, m, r + 1, by omega, by omega, by omega, by rw [hdd, hml], by omega, by go_num, rfl, hM.on n2.h, by rw [hdd]; exact hD.bel n2.h, fun i hi1 hi2 => ⟨keep n2.h (hT i (by omega) hi2).1, keep n2.h (hT i (by omega) hi2).2⟩, fun j hj => some_bel n2.h (EX j hj)⟩, by simp [intOf]; omega⟩
            · have hrn : r = n := by omega
              subst hrn
              have c1 : ¬ (c : Int) < ((r - k : Nat) : Int) := by omega
              have c2 : ¬ c < r - k := by omega
              have m1 : (m : Int) ≤ (r : Int) := by omega
              have m2 : m ≤ r := by omega
              have m3 : (m : Int) ≤ (cap : Int) := by omega
              have m4 : m ≤ cap := by omega
              have m5 : m < cap := by omega
              have hcl := fun ty => run_clear2 wr ty b (off + m * 2) (r - m) (cap - m) (by omega) (fun j hj => by rw [Nat.add_assoc]; exact EX _ (by omega)) FQ
              go_wp2
              go_ret
              refine ⟨by (try rw [hml]); rfl, hM.sets _ _, ?_⟩
              (try rw [hml])
              intro i hi
              obtain ⟨t0, t1⟩ := hD i hi
              exact ⟨(World.cell?_setCells_out b _ _ _ ⟨b, off + i * 2, none⟩ (fun _ _ => .inl (by show off + i * 2 < off + m * 2; omega))).trans t0, (World.cell?_setCells_out b _ _ _ ⟨b, off + i * 2 + 1, none⟩ (fun _ _ => .inl (by show off + i * 2 + 1 < off + m * 2; omega))).trans t1⟩
      · have hkn : k = n := by omega
        subst hkn
        go_wp2
        go_ret
        exact ⟨by rw [hdl]; rfl, hM, by rw [hdl]; exact hR.eq (fun i hi => (px_pt (hdp i hi)).symm) (fun i hi => (py_pt (hdp i hi)).symm)⟩

end Go.Proofs.Ytpedpgpgcmhnoaa
