/-
  What slices.SortStableFunc does to a row of elements of one cell, whatever its length: the row that is in order, of such as are alike the earlier ahead; by its helpers one after another.
-/
import Derived.Test.YtekhnolpgoejdaaGreatSta
import Derived.Shelf.SlSortCmp.Insertion1
import Derived.Sort.WalkB2
import Derived.Sort.WalkB12
import Derived.Deep.LoopGhost
import Derived.WalkKit
import Derived.WalkLawsBesides
import Derived.WalkSpells
import Derived.ProofKit
import Derived.OpenShut
import Derived.Test.YtekhnolpgoejdaaGreatProg
namespace Go.Proofs.YtekhnolpgoejdaaGreat
open Go.ChangeShapes Go.WideShapes Go.ChangeAt Go.RowKit Go.Shelf Go.Lib Go.Sort
set_option linter.unusedVariables false
set_option linter.unusedSimpArgs false


set_option maxHeartbeats 16000000 in
set_option maxRecDepth 1000000 in
theorem sym_hi {α : Type} [Inhabited α] (enc : α → Value) (cf : α → α → Int) (g : Nat) (cb : Array Value) (blk off cap n0 : Nat) (d0 d : Array α) (w0 w : World) (a m b mid : Nat)
    (R : Row1 enc w0 blk off d0) (hs : d0.size = n0) (hn0 : d.size = n0) (S : SW enc w0 blk off d w) (hsz : n0 < 2000000000000000000) (eg : ∀ args w, (callFunc g args).run Tryz.prog w = .ok (.enter g args) w) (hcmp : CmpLays1 Tryz.prog g cb enc cf blk off d0.size w0) (hO : SWO (ltOf cf)) (pos : α → Nat) (ham : a + 1 < m) (hmb : m + 1 < b) (hb : b ≤ n0) (hM : Mrg (ltOf cf) pos a m b d) (hmid1 : 2 * mid ≤ a + b) (hmid2 : a + b ≤ 2 * mid + 1) (hcase : mid < m)
    (ih : ∀ (a' m' b' : Nat) (d' : Array α) (w' : World), b' - a' < b - a → d'.size = n0 → SW enc w0 blk off d' w' → a' < m' → m' < b' → b' ≤ n0 → Mrg (ltOf cf) pos a' m' b' d' → Calls Tryz.prog 121 #[.slice (some ⟨blk, off, none⟩) n0 cap, .int .i64 a', .int .i64 m', .int .i64 b', .func (.func g) #[] cb] w' fun e w1 => e = .returned (.tuple #[]) ∧ ∃ d1, PermIn a' b' d' d1 ∧ SortedIn (stT (ltOf cf) pos) a' b' d1 ∧ SW enc w0 blk off d1 w1) :
    Calls Tryz.prog 121 #[.slice (some ⟨blk, off, none⟩) n0 cap, .int .i64 a, .int .i64 m, .int .i64 b, .func (.func g) #[] cb] w fun e w' => e = .returned (.tuple #[]) ∧ ∃ d', PermIn a b d d' ∧ SortedIn (stT (ltOf cf) pos) a b d' ∧ SW enc w0 blk off d' w' := by
  have mixed : Tryz.prog.follows Departure.mixedOrders = true := by kernel_rfl
  have hcl0 := R.hO.cells
  simp only [Value.cells] at hcl0
  have hst := R.hO.store Tryz.prog
  have S0 : Aside (SW enc w0 blk off d w) := S
  clear S
  have HC : Aside _ := hcmp
  have HM : Aside _ := hM
  have HO : Aside _ := hO
  clear hcmp hM hO
  have w1 : IntKind.wrap .i64 ((m : Int) - (a : Int)) = (m : Int) - (a : Int) := by rw [IntKind.wrap_i64]; omega
  have w2 : IntKind.wrap .i64 ((b : Int) - (m : Int)) = (b : Int) - (m : Int) := by rw [IntKind.wrap_i64]; omega
  have w3 : ((m : Int) - (a : Int) == 1) = false := by simp; omega
  have w4 : ((b : Int) - (m : Int) == 1) = false := by simp; omega
  have u1 : IntKind.wrap .i64 ((a : Int) + (b : Int)) = (a : Int) + (b : Int) := by rw [IntKind.wrap_i64]; omega
  have u2 : IntKind.wrap .u64 ((a : Int) + (b : Int)) = (a : Int) + (b : Int) := by simp [IntKind.wrap, IntKind.bits, IntKind.signed]; omega
  have u3 : ((a : Int) + (b : Int)) / 2 = (mid : Int) := by omega
  have u4 : IntKind.wrap .u64 (mid : Int) = (mid : Int) := by simp [IntKind.wrap, IntKind.bits, IntKind.signed]; omega
  have u5 : IntKind.wrap .i64 (mid : Int) = (mid : Int) := by rw [IntKind.wrap_i64]; omega
  have u6 : IntKind.wrap .i64 ((mid : Int) + (m : Int)) = (mid : Int) + (m : Int) := by rw [IntKind.wrap_i64]; omega
  obtain ⟨P, hP⟩ : ∃ P, P + 1 = mid + m := ⟨mid + m - 1, by omega⟩
  have u7 : IntKind.wrap .i64 ((mid : Int) + (m : Int) - 1) = (P : Int) := by rw [IntKind.wrap_i64]; omega
  have z1 : (mid : Int) < (m : Int) := by omega
  obtain ⟨lo, hlo⟩ : ∃ q, q + b = mid + m := ⟨mid + m - b, by omega⟩
  have z2 : IntKind.wrap .i64 ((mid : Int) + (m : Int) - (b : Int)) = (lo : Int) := by rw [IntKind.wrap_i64]; omega
  go_enter Tryz.func121, Tryz.ntmps121
  go_wp2
  go_loopg [20, 21] (mid - lo) (fun kx s20 s21 wr => ∃ (i j : Nat), s20 = .int .i64 i ∧ s21 = .int .i64 j ∧ lo ≤ i ∧ i ≤ j ∧ j ≤ mid ∧ j - i ≤ kx ∧ Aside (SW enc w0 blk off d wr) ∧ Hid (∀ c, lo ≤ c → c < i → ltOf cf d[P - c]! d[c]! = false) ∧ Hid (∀ c, j ≤ c → c < mid → ltOf cf d[P - c]! d[c]! = true))
  case atStart => exact ⟨lo, mid, rfl, rfl, by omega, by omega, by omega, by omega, S0, fun k _ _ => by omega, fun k _ _ => by omega⟩
  case round =>
    clear S0
    obtain ⟨i, j, rfl, rfl, hi, hij, hj, hkx, S1, hA, hB⟩ := hrel
    by_cases hlt : i < j
    · have hltz : (i : Int) < (j : Int) := by omega
      have md1 : IntKind.wrap .i64 ((i : Int) + (j : Int)) = (i : Int) + (j : Int) := by rw [IntKind.wrap_i64]; omega
      have md2 : IntKind.wrap .u64 ((i : Int) + (j : Int)) = (i : Int) + (j : Int) := by simp [IntKind.wrap, IntKind.bits, IntKind.signed]; omega
      obtain ⟨h, hh⟩ : ∃ h, h = (i + j) / 2 := ⟨_, rfl⟩
      have md3 : ((i : Int) + (j : Int)) / 2 = (h : Int) := by omega
      have md4 : IntKind.wrap .u64 (h : Int) = (h : Int) := by simp [IntKind.wrap, IntKind.bits, IntKind.signed]; omega
      have md5 : IntKind.wrap .i64 (h : Int) = (h : Int) := by rw [IntKind.wrap_i64]; omega
      have md6 : i ≤ h ∧ h < j := by omega
      clear hh

      obtain ⟨pc, hpc⟩ : ∃ q, q + h = P := ⟨P - h, by omega⟩
      have md7 : IntKind.wrap .i64 ((P : Int) - (h : Int)) = (pc : Int) := by rw [IntKind.wrap_i64]; omega
      cases hlv : ltOf cf d[pc]! d[h]! with
      | false =>
        obtain ⟨iN1, hiN1⟩ : ∃ q, q = pc := ⟨_, rfl⟩
        obtain ⟨jN1, hjN1⟩ : ∃ q, q = h := ⟨_, rfl⟩
        have ea1 : ((pc : Int)).toNat = iN1 := by omega
        have pa1 : (0 : Int) ≤ (pc : Int) := by omega
        have ba1 : (pc : Int) < (n0 : Int) := by omega
        have ra1 : IntKind.i64.wrap ((pc : Int)) = (pc : Int) := by rw [IntKind.wrap_i64]; omega
        have ec1 : ((h : Int)).toNat = jN1 := by omega
        have pc1 : (0 : Int) ≤ (h : Int) := by omega
        have bc1 : (h : Int) < (n0 : Int) := by omega
        have rc1 : IntKind.i64.wrap ((h : Int)) = (h : Int) := by rw [IntKind.wrap_i64]; omega
        obtain ⟨x1, hx1⟩ : ∃ x, x = d[pc]! := ⟨_, rfl⟩
        obtain ⟨y1, hy1⟩ : ∃ x, x = d[h]! := ⟨_, rfl⟩
        have l1a := S1.out.cl R (by omega) (pc) (by omega)
        have l1b := S1.out.cl R (by omega) (h) (by omega)
        rw [← hx1, ← hiN1] at l1a
        rw [← hy1, ← hjN1] at l1b
        have hc1 := S1.out.cmp HC.out (by omega) x1 y1
        have hv1 : ¬ cf x1 y1 < 0 := by rw [hx1, hy1]; exact of_decide_eq_false hlv
        have hd1 : decide (cf x1 y1 < 0) = false := decide_eq_false hv1
        clear hx1 hy1 hiN1 hjN1
        go_wp2_with fail
        go_quiet_grown (first | (go_at_fn g; refine Calls.grown_of (hc1 _ _)))
        have S2 : Aside (SW enc w0 blk off d (grow (wr.drewN nq) osq)) := S1.out.grown nq osq
        clear l1a l1b hc1 S1
        generalize grow (wr.drewN nq) osq = w21 at S2 ⊢
        clear nq osq
        clear ea1 ec1
        go_wp2
        go_roundg (j - (h + 1))
        case measure => omega
        case rel => exact ⟨h + 1, j, by go_num, rfl, by omega, by omega, by omega, Nat.le_refl _, S2, fun k h1 h2 => HM.out.mono HO.out (i := h) (i' := k) (j := pc) (j' := P - k) (by omega) (by omega) (by omega) (by omega) (by omega) (by omega) hlv, hB⟩
      | true =>
        obtain ⟨iN2, hiN2⟩ : ∃ q, q = pc := ⟨_, rfl⟩
        obtain ⟨jN2, hjN2⟩ : ∃ q, q = h := ⟨_, rfl⟩
        have ea2 : ((pc : Int)).toNat = iN2 := by omega
        have pa2 : (0 : Int) ≤ (pc : Int) := by omega
        have ba2 : (pc : Int) < (n0 : Int) := by omega
        have ra2 : IntKind.i64.wrap ((pc : Int)) = (pc : Int) := by rw [IntKind.wrap_i64]; omega
        have ec2 : ((h : Int)).toNat = jN2 := by omega
        have pc2 : (0 : Int) ≤ (h : Int) := by omega
        have bc2 : (h : Int) < (n0 : Int) := by omega
        have rc2 : IntKind.i64.wrap ((h : Int)) = (h : Int) := by rw [IntKind.wrap_i64]; omega
        obtain ⟨x2, hx2⟩ : ∃ x, x = d[pc]! := ⟨_, rfl⟩
        obtain ⟨y2, hy2⟩ : ∃ x, x = d[h]! := ⟨_, rfl⟩
        have l2a := S1.out.cl R (by omega) (pc) (by omega)
        have l2b := S1.out.cl R (by omega) (h) (by omega)
        rw [← hx2, ← hiN2] at l2a
        rw [← hy2, ← hjN2] at l2b
        have hc2 := S1.out.cmp HC.out (by omega) x2 y2
        have hv2 : cf x2 y2 < 0 := by rw [hx2, hy2]; exact of_decide_eq_true hlv
        have hd2 : decide (cf x2 y2 < 0) = true := decide_eq_true hv2
        clear hx2 hy2 hiN2 hjN2
        go_wp2_with fail
        go_quiet_grown (first | (go_at_fn g; refine Calls.grown_of (hc2 _ _)))
        have S2 : Aside (SW enc w0 blk off d (grow (wr.drewN nq) osq)) := S1.out.grown nq osq
        clear l2a l2b hc2 S1
        generalize grow (wr.drewN nq) osq = w22 at S2 ⊢
        clear nq osq
        clear ea2 ec2
        go_wp2
        go_roundg (h - i)
        case measure => omega
        case rel => exact ⟨i, h, rfl, rfl, by omega, by omega, by omega, Nat.le_refl _, S2, hA, fun k h1 h2 => HM.out.mono' HO.out (i := k) (i' := h) (j := P - k) (j' := pc) (by omega) (by omega) (by omega) (by omega) (by omega) (by omega) hlv⟩
    · have hltz : ¬ (i : Int) < (j : Int) := by omega
      have hij' : i = j := by omega
      subst hij'
      obtain ⟨s, rfl⟩ : ∃ s, s = i := ⟨_, rfl⟩
      obtain ⟨E, hE⟩ : ∃ E, E + s = mid + m := ⟨mid + m - s, by omega⟩
      have t1 : IntKind.wrap .i64 ((mid : Int) + (m : Int) - (s : Int)) = (E : Int) := by rw [IntKind.wrap_i64]; omega
      have hx : a < s → E < b → ltOf cf d[E]! d[s - 1]! = false := fun h1 h2 => by
        have := hA.out (s - 1) (by omega) (by omega)
        rwa [show P - (s - 1) = E by omega] at this
      have hy : s < m → m < E → ltOf cf d[E - 1]! d[s]! = true := fun h1 h2 => by
        have := hB.out s (by omega) (by omega)
        rwa [show P - s = E - 1 by omega] at this
      by_cases cA : s < m
      · by_cases cB : s < mid
        · by_cases cC : a < s
          · by_cases cD : E < b
            · first
              | (exfalso; omega)
              | (have gA : (s : Int) < (m : Int) := by omega
                 have gA2 : (mid : Int) < (E : Int) := by omega
                 have gB : (s : Int) < (mid : Int) := by omega
                 have gB2 : (m : Int) < (E : Int) := by omega
                 have gC : (a : Int) < (s : Int) := by omega
                 have gD : (E : Int) < (b : Int) := by omega
                 have hR := rotate_s enc cf g cb blk off cap n0 d0 d w0 wr s m E R hs hn0 S1.out hsz (by omega) (by omega) (by omega)
                 go_wp2_with (first | (go_at_call 127; (with_reducible refine hR.mono ?_); rintro e w' ⟨rfl, d1, q1, q2, q3, S2⟩; obtain ⟨M1, M2, X⟩ := HM.out.cut HO.out (s := s) (e := E) (mid := mid) (d1 := d1) (by omega) (by omega) (by omega) (by omega) (by omega) hx hy q2; clear hR; have q3' := permIn_mono _ _ _ _ _ _ (show a ≤ s by omega) (show E ≤ b by omega) (by omega) q3) | (go_at_call 121; (with_reducible refine (ih a s mid d1 _ (by omega) q1 S2 (by omega) (by omega) (by omega) M1).mono ?_); rintro e w' ⟨rfl, d2, q4, q5, S3⟩; clear S2; have M2' := M2.perm q4 (Nat.le_refl _) (by omega); have q6 := permIn_mono _ _ _ _ _ _ (Nat.le_refl a) (show mid ≤ b by omega) (by omega) q4; have q7 : d2.size = n0 := q4.1.trans q1) | (go_at_call 121; (with_reducible refine (ih mid E b d2 _ (by omega) q7 S3 (by omega) (by omega) (by omega) M2').mono ?_); rintro e w' ⟨rfl, d3, q8, q9, S4⟩))
                 go_end0
                 exact ⟨rfl, d3, permIn_trans _ _ _ _ _ q3' (permIn_two (by omega) (by omega) (by omega) q4 q8), join_two (by omega) (by omega) (by omega) X q4 q5 q8 q9, S4⟩)
            · first
              | (exfalso; omega)
              | (have gA : (s : Int) < (m : Int) := by omega
                 have gA2 : (mid : Int) < (E : Int) := by omega
                 have gB : (s : Int) < (mid : Int) := by omega
                 have gB2 : (m : Int) < (E : Int) := by omega
                 have gC : (a : Int) < (s : Int) := by omega
                 have gD : ¬ (E : Int) < (b : Int) := by omega
                 have hR := rotate_s enc cf g cb blk off cap n0 d0 d w0 wr s m E R hs hn0 S1.out hsz (by omega) (by omega) (by omega)
                 go_wp2_with (first | (go_at_call 127; (with_reducible refine hR.mono ?_); rintro e w' ⟨rfl, d1, q1, q2, q3, S2⟩; obtain ⟨M1, M2, X⟩ := HM.out.cut HO.out (s := s) (e := E) (mid := mid) (d1 := d1) (by omega) (by omega) (by omega) (by omega) (by omega) hx hy q2; clear hR; have q3' := permIn_mono _ _ _ _ _ _ (show a ≤ s by omega) (show E ≤ b by omega) (by omega) q3) | (go_at_call 121; (with_reducible refine (ih a s mid d1 _ (by omega) q1 S2 (by omega) (by omega) (by omega) M1).mono ?_); rintro e w' ⟨rfl, d2, q4, q5, S3⟩; clear S2; have M2' := M2.perm q4 (Nat.le_refl _) (by omega); have q6 := permIn_mono _ _ _ _ _ _ (Nat.le_refl a) (show mid ≤ b by omega) (by omega) q4; have q7 : d2.size = n0 := q4.1.trans q1))
                 go_end0
                 obtain ⟨d3, hd3⟩ : ∃ d3, d3 = d2 := ⟨_, rfl⟩
                 have q8 : PermIn mid b d2 d3 := by rw [hd3]; exact permIn_refl _ _ _
                 have q9 : SortedIn (stT (ltOf cf) pos) mid b d3 := by rw [hd3]; exact M2'.none_l (by omega)
                 have S4 := S3
                 rw [← hd3] at S4
                 exact ⟨rfl, d3, permIn_trans _ _ _ _ _ q3' (permIn_two (by omega) (by omega) (by omega) q4 q8), join_two (by omega) (by omega) (by omega) X q4 q5 q8 q9, S4⟩)
          · by_cases cD : E < b
            · first
              | (exfalso; omega)
              | (have gA : (s : Int) < (m : Int) := by omega
                 have gA2 : (mid : Int) < (E : Int) := by omega
                 have gB : (s : Int) < (mid : Int) := by omega
                 have gB2 : (m : Int) < (E : Int) := by omega
                 have gC : ¬ (a : Int) < (s : Int) := by omega
                 have gD : (E : Int) < (b : Int) := by omega
                 have hR := rotate_s enc cf g cb blk off cap n0 d0 d w0 wr s m E R hs hn0 S1.out hsz (by omega) (by omega) (by omega)
                 go_wp2_with (first | (go_at_call 127; (with_reducible refine hR.mono ?_); rintro e w' ⟨rfl, d1, q1, q2, q3, S2⟩; obtain ⟨M1, M2, X⟩ := HM.out.cut HO.out (s := s) (e := E) (mid := mid) (d1 := d1) (by omega) (by omega) (by omega) (by omega) (by omega) hx hy q2; clear hR; have q3' := permIn_mono _ _ _ _ _ _ (show a ≤ s by omega) (show E ≤ b by omega) (by omega) q3; obtain ⟨d2, hd2⟩ : ∃ d2, d2 = d1 := ⟨_, rfl⟩; have q4 : PermIn a mid d1 d2 := (by rw [hd2]; exact permIn_refl _ _ _); have q5 : SortedIn (stT (ltOf cf) pos) a mid d2 := (by rw [hd2]; exact M1.none_l (by omega)); have S3 := S2; rw [← hd2] at S3; clear hd2; have M2' := M2.perm q4 (Nat.le_refl _) (by omega); have q6 := permIn_mono _ _ _ _ _ _ (Nat.le_refl a) (show mid ≤ b by omega) (by omega) q4; have q7 : d2.size = n0 := q4.1.trans q1) | (go_at_call 121; (with_reducible refine (ih mid E b d2 _ (by omega) q7 S3 (by omega) (by omega) (by omega) M2').mono ?_); rintro e w' ⟨rfl, d3, q8, q9, S4⟩))
                 go_end0
                 exact ⟨rfl, d3, permIn_trans _ _ _ _ _ q3' (permIn_two (by omega) (by omega) (by omega) q4 q8), join_two (by omega) (by omega) (by omega) X q4 q5 q8 q9, S4⟩)
            · first
              | (exfalso; omega)
              | (have gA : (s : Int) < (m : Int) := by omega
                 have gA2 : (mid : Int) < (E : Int) := by omega
                 have gB : (s : Int) < (mid : Int) := by omega
                 have gB2 : (m : Int) < (E : Int) := by omega
                 have gC : ¬ (a : Int) < (s : Int) := by omega
                 have gD : ¬ (E : Int) < (b : Int) := by omega
                 have hR := rotate_s enc cf g cb blk off cap n0 d0 d w0 wr s m E R hs hn0 S1.out hsz (by omega) (by omega) (by omega)
                 go_wp2_with (first | (go_at_call 127; (with_reducible refine hR.mono ?_); rintro e w' ⟨rfl, d1, q1, q2, q3, S2⟩; obtain ⟨M1, M2, X⟩ := HM.out.cut HO.out (s := s) (e := E) (mid := mid) (d1 := d1) (by omega) (by omega) (by omega) (by omega) (by omega) hx hy q2; clear hR; have q3' := permIn_mono _ _ _ _ _ _ (show a ≤ s by omega) (show E ≤ b by omega) (by omega) q3; obtain ⟨d2, hd2⟩ : ∃ d2, d2 = d1 := ⟨_, rfl⟩; have q4 : PermIn a mid d1 d2 := (by rw [hd2]; exact permIn_refl _ _ _); have q5 : SortedIn (stT (ltOf cf) pos) a mid d2 := (by rw [hd2]; exact M1.none_l (by omega)); have S3 := S2; rw [← hd2] at S3; clear hd2; have M2' := M2.perm q4 (Nat.le_refl _) (by omega); have q6 := permIn_mono _ _ _ _ _ _ (Nat.le_refl a) (show mid ≤ b by omega) (by omega) q4; have q7 : d2.size = n0 := q4.1.trans q1))
                 go_end0
                 obtain ⟨d3, hd3⟩ : ∃ d3, d3 = d2 := ⟨_, rfl⟩
                 have q8 : PermIn mid b d2 d3 := by rw [hd3]; exact permIn_refl _ _ _
                 have q9 : SortedIn (stT (ltOf cf) pos) mid b d3 := by rw [hd3]; exact M2'.none_l (by omega)
                 have S4 := S3
                 rw [← hd3] at S4
                 exact ⟨rfl, d3, permIn_trans _ _ _ _ _ q3' (permIn_two (by omega) (by omega) (by omega) q4 q8), join_two (by omega) (by omega) (by omega) X q4 q5 q8 q9, S4⟩)
        · by_cases cC : a < s
          · by_cases cD : E < b
            · first
              | (exfalso; omega)
              | (have gA : (s : Int) < (m : Int) := by omega
                 have gA2 : (mid : Int) < (E : Int) := by omega
                 have gB : ¬ (s : Int) < (mid : Int) := by omega
                 have gB2 : ¬ (m : Int) < (E : Int) := by omega
                 have gC : (a : Int) < (s : Int) := by omega
                 have gD : (E : Int) < (b : Int) := by omega
                 obtain ⟨d1, hd1⟩ : ∃ d1, d1 = d := ⟨_, rfl⟩
                 have q1 : d1.size = n0 := by rw [hd1]; exact hn0
                 have q3' : PermIn a b d d1 := by rw [hd1]; exact permIn_refl _ _ _
                 have S2 : SW enc w0 blk off d1 wr := by rw [hd1]; exact S1.out
                 obtain ⟨M1, M2, X⟩ := HM.out.cut HO.out (s := s) (e := E) (mid := mid) (d1 := d1) (by omega) (by omega) (by omega) (by omega) (by omega) hx hy (fun k => by rw [hd1]; exact rot_id (by omega) (by omega) (by omega) k)
                 clear hd1
                 obtain ⟨d2, hd2⟩ : ∃ d2, d2 = d1 := ⟨_, rfl⟩
                 have q4 : PermIn a mid d1 d2 := (by rw [hd2]; exact permIn_refl _ _ _)
                 have q5 : SortedIn (stT (ltOf cf) pos) a mid d2 := (by rw [hd2]; exact M1.none_l (by omega))
                 have S3 := S2
                 rw [← hd2] at S3
                 clear hd2
                 have M2' := M2.perm q4 (Nat.le_refl _) (by omega)
                 have q6 := permIn_mono _ _ _ _ _ _ (Nat.le_refl a) (show mid ≤ b by omega) (by omega) q4
                 have q7 : d2.size = n0 := q4.1.trans q1
                 go_wp2_with (first | (go_at_call 121; (with_reducible refine (ih mid E b d2 _ (by omega) q7 S3 (by omega) (by omega) (by omega) M2').mono ?_); rintro e w' ⟨rfl, d3, q8, q9, S4⟩))
                 go_end0
                 exact ⟨rfl, d3, permIn_trans _ _ _ _ _ q3' (permIn_two (by omega) (by omega) (by omega) q4 q8), join_two (by omega) (by omega) (by omega) X q4 q5 q8 q9, S4⟩)
            · first
              | (exfalso; omega)
              | (have gA : (s : Int) < (m : Int) := by omega
                 have gA2 : (mid : Int) < (E : Int) := by omega
                 have gB : ¬ (s : Int) < (mid : Int) := by omega
                 have gB2 : ¬ (m : Int) < (E : Int) := by omega
                 have gC : (a : Int) < (s : Int) := by omega
                 have gD : ¬ (E : Int) < (b : Int) := by omega
                 obtain ⟨d1, hd1⟩ : ∃ d1, d1 = d := ⟨_, rfl⟩
                 have q1 : d1.size = n0 := by rw [hd1]; exact hn0
                 have q3' : PermIn a b d d1 := by rw [hd1]; exact permIn_refl _ _ _
                 have S2 : SW enc w0 blk off d1 wr := by rw [hd1]; exact S1.out
                 obtain ⟨M1, M2, X⟩ := HM.out.cut HO.out (s := s) (e := E) (mid := mid) (d1 := d1) (by omega) (by omega) (by omega) (by omega) (by omega) hx hy (fun k => by rw [hd1]; exact rot_id (by omega) (by omega) (by omega) k)
                 clear hd1
                 obtain ⟨d2, hd2⟩ : ∃ d2, d2 = d1 := ⟨_, rfl⟩
                 have q4 : PermIn a mid d1 d2 := (by rw [hd2]; exact permIn_refl _ _ _)
                 have q5 : SortedIn (stT (ltOf cf) pos) a mid d2 := (by rw [hd2]; exact M1.none_l (by omega))
                 have S3 := S2
                 rw [← hd2] at S3
                 clear hd2
                 have M2' := M2.perm q4 (Nat.le_refl _) (by omega)
                 have q6 := permIn_mono _ _ _ _ _ _ (Nat.le_refl a) (show mid ≤ b by omega) (by omega) q4
                 have q7 : d2.size = n0 := q4.1.trans q1
                 go_wp2
                 go_end0
                 obtain ⟨d3, hd3⟩ : ∃ d3, d3 = d2 := ⟨_, rfl⟩
                 have q8 : PermIn mid b d2 d3 := by rw [hd3]; exact permIn_refl _ _ _
                 have q9 : SortedIn (stT (ltOf cf) pos) mid b d3 := by rw [hd3]; exact M2'.none_l (by omega)
                 have S4 := S3
                 rw [← hd3] at S4
                 exact ⟨rfl, d3, permIn_trans _ _ _ _ _ q3' (permIn_two (by omega) (by omega) (by omega) q4 q8), join_two (by omega) (by omega) (by omega) X q4 q5 q8 q9, S4⟩)
          · by_cases cD : E < b
            · first
              | (exfalso; omega)
              | (have gA : (s : Int) < (m : Int) := by omega
                 have gA2 : (mid : Int) < (E : Int) := by omega
                 have gB : ¬ (s : Int) < (mid : Int) := by omega
                 have gB2 : ¬ (m : Int) < (E : Int) := by omega
                 have gC : ¬ (a : Int) < (s : Int) := by omega
                 have gD : (E : Int) < (b : Int) := by omega
                 obtain ⟨d1, hd1⟩ : ∃ d1, d1 = d := ⟨_, rfl⟩
                 have q1 : d1.size = n0 := by rw [hd1]; exact hn0
                 have q3' : PermIn a b d d1 := by rw [hd1]; exact permIn_refl _ _ _
                 have S2 : SW enc w0 blk off d1 wr := by rw [hd1]; exact S1.out
                 obtain ⟨M1, M2, X⟩ := HM.out.cut HO.out (s := s) (e := E) (mid := mid) (d1 := d1) (by omega) (by omega) (by omega) (by omega) (by omega) hx hy (fun k => by rw [hd1]; exact rot_id (by omega) (by omega) (by omega) k)
                 clear hd1
                 obtain ⟨d2, hd2⟩ : ∃ d2, d2 = d1 := ⟨_, rfl⟩
                 have q4 : PermIn a mid d1 d2 := (by rw [hd2]; exact permIn_refl _ _ _)
                 have q5 : SortedIn (stT (ltOf cf) pos) a mid d2 := (by rw [hd2]; exact M1.none_l (by omega))
                 have S3 := S2
                 rw [← hd2] at S3
                 clear hd2
                 have M2' := M2.perm q4 (Nat.le_refl _) (by omega)
                 have q6 := permIn_mono _ _ _ _ _ _ (Nat.le_refl a) (show mid ≤ b by omega) (by omega) q4
                 have q7 : d2.size = n0 := q4.1.trans q1
                 go_wp2_with (first | (go_at_call 121; (with_reducible refine (ih mid E b d2 _ (by omega) q7 S3 (by omega) (by omega) (by omega) M2').mono ?_); rintro e w' ⟨rfl, d3, q8, q9, S4⟩))
                 go_end0
                 exact ⟨rfl, d3, permIn_trans _ _ _ _ _ q3' (permIn_two (by omega) (by omega) (by omega) q4 q8), join_two (by omega) (by omega) (by omega) X q4 q5 q8 q9, S4⟩)
            · first
              | (exfalso; omega)
              | (have gA : (s : Int) < (m : Int) := by omega
                 have gA2 : (mid : Int) < (E : Int) := by omega
                 have gB : ¬ (s : Int) < (mid : Int) := by omega
                 have gB2 : ¬ (m : Int) < (E : Int) := by omega
                 have gC : ¬ (a : Int) < (s : Int) := by omega
                 have gD : ¬ (E : Int) < (b : Int) := by omega
                 obtain ⟨d1, hd1⟩ : ∃ d1, d1 = d := ⟨_, rfl⟩
                 have q1 : d1.size = n0 := by rw [hd1]; exact hn0
                 have q3' : PermIn a b d d1 := by rw [hd1]; exact permIn_refl _ _ _
                 have S2 : SW enc w0 blk off d1 wr := by rw [hd1]; exact S1.out
                 obtain ⟨M1, M2, X⟩ := HM.out.cut HO.out (s := s) (e := E) (mid := mid) (d1 := d1) (by omega) (by omega) (by omega) (by omega) (by omega) hx hy (fun k => by rw [hd1]; exact rot_id (by omega) (by omega) (by omega) k)
                 clear hd1
                 obtain ⟨d2, hd2⟩ : ∃ d2, d2 = d1 := ⟨_, rfl⟩
                 have q4 : PermIn a mid d1 d2 := (by rw [hd2]; exact permIn_refl _ _ _)
                 have q5 : SortedIn (stT (ltOf cf) pos) a mid d2 := (by rw [hd2]; exact M1.none_l (by omega))
                 have S3 := S2
                 rw [← hd2] at S3
                 clear hd2
                 have M2' := M2.perm q4 (Nat.le_refl _) (by omega)
                 have q6 := permIn_mono _ _ _ _ _ _ (Nat.le_refl a) (show mid ≤ b by omega) (by omega) q4
                 have q7 : d2.size = n0 := q4.1.trans q1
                 go_wp2
                 go_end0
                 obtain ⟨d3, hd3⟩ : ∃ d3, d3 = d2 := ⟨_, rfl⟩
                 have q8 : PermIn mid b d2 d3 := by rw [hd3]; exact permIn_refl _ _ _
                 have q9 : SortedIn (stT (ltOf cf) pos) mid b d3 := by rw [hd3]; exact M2'.none_l (by omega)
                 have S4 := S3
                 rw [← hd3] at S4
                 exact ⟨rfl, d3, permIn_trans _ _ _ _ _ q3' (permIn_two (by omega) (by omega) (by omega) q4 q8), join_two (by omega) (by omega) (by omega) X q4 q5 q8 q9, S4⟩)
      · by_cases cB : s < mid
        · by_cases cC : a < s
          · by_cases cD : E < b
            · first
              | (exfalso; omega)
              | (have gA : ¬ (s : Int) < (m : Int) := by omega
                 have gA2 : ¬ (mid : Int) < (E : Int) := by omega
                 have gB : (s : Int) < (mid : Int) := by omega
                 have gB2 : (m : Int) < (E : Int) := by omega
                 have gC : (a : Int) < (s : Int) := by omega
                 have gD : (E : Int) < (b : Int) := by omega
                 obtain ⟨d1, hd1⟩ : ∃ d1, d1 = d := ⟨_, rfl⟩
                 have q1 : d1.size = n0 := by rw [hd1]; exact hn0
                 have q3' : PermIn a b d d1 := by rw [hd1]; exact permIn_refl _ _ _
                 have S2 : SW enc w0 blk off d1 wr := by rw [hd1]; exact S1.out
                 obtain ⟨M1, M2, X⟩ := HM.out.cut HO.out (s := s) (e := E) (mid := mid) (d1 := d1) (by omega) (by omega) (by omega) (by omega) (by omega) hx hy (fun k => by rw [hd1]; exact rot_id (by omega) (by omega) (by omega) k)
                 clear hd1
                 go_wp2_with (first | (go_at_call 121; (with_reducible refine (ih a s mid d1 _ (by omega) q1 S2 (by omega) (by omega) (by omega) M1).mono ?_); rintro e w' ⟨rfl, d2, q4, q5, S3⟩; clear S2; have M2' := M2.perm q4 (Nat.le_refl _) (by omega); have q6 := permIn_mono _ _ _ _ _ _ (Nat.le_refl a) (show mid ≤ b by omega) (by omega) q4; have q7 : d2.size = n0 := q4.1.trans q1))
                 go_end0
                 obtain ⟨d3, hd3⟩ : ∃ d3, d3 = d2 := ⟨_, rfl⟩
                 have q8 : PermIn mid b d2 d3 := by rw [hd3]; exact permIn_refl _ _ _
                 have q9 : SortedIn (stT (ltOf cf) pos) mid b d3 := by rw [hd3]; exact M2'.none_l (by omega)
                 have S4 := S3
                 rw [← hd3] at S4
                 exact ⟨rfl, d3, permIn_trans _ _ _ _ _ q3' (permIn_two (by omega) (by omega) (by omega) q4 q8), join_two (by omega) (by omega) (by omega) X q4 q5 q8 q9, S4⟩)
            · first
              | (exfalso; omega)
              | (have gA : ¬ (s : Int) < (m : Int) := by omega
                 have gA2 : ¬ (mid : Int) < (E : Int) := by omega
                 have gB : (s : Int) < (mid : Int) := by omega
                 have gB2 : (m : Int) < (E : Int) := by omega
                 have gC : (a : Int) < (s : Int) := by omega
                 have gD : ¬ (E : Int) < (b : Int) := by omega
                 obtain ⟨d1, hd1⟩ : ∃ d1, d1 = d := ⟨_, rfl⟩
                 have q1 : d1.size = n0 := by rw [hd1]; exact hn0
                 have q3' : PermIn a b d d1 := by rw [hd1]; exact permIn_refl _ _ _
                 have S2 : SW enc w0 blk off d1 wr := by rw [hd1]; exact S1.out
                 obtain ⟨M1, M2, X⟩ := HM.out.cut HO.out (s := s) (e := E) (mid := mid) (d1 := d1) (by omega) (by omega) (by omega) (by omega) (by omega) hx hy (fun k => by rw [hd1]; exact rot_id (by omega) (by omega) (by omega) k)
                 clear hd1
                 go_wp2_with (first | (go_at_call 121; (with_reducible refine (ih a s mid d1 _ (by omega) q1 S2 (by omega) (by omega) (by omega) M1).mono ?_); rintro e w' ⟨rfl, d2, q4, q5, S3⟩; clear S2; have M2' := M2.perm q4 (Nat.le_refl _) (by omega); have q6 := permIn_mono _ _ _ _ _ _ (Nat.le_refl a) (show mid ≤ b by omega) (by omega) q4; have q7 : d2.size = n0 := q4.1.trans q1))
                 go_end0
                 obtain ⟨d3, hd3⟩ : ∃ d3, d3 = d2 := ⟨_, rfl⟩
                 have q8 : PermIn mid b d2 d3 := by rw [hd3]; exact permIn_refl _ _ _
                 have q9 : SortedIn (stT (ltOf cf) pos) mid b d3 := by rw [hd3]; exact M2'.none_l (by omega)
                 have S4 := S3
                 rw [← hd3] at S4
                 exact ⟨rfl, d3, permIn_trans _ _ _ _ _ q3' (permIn_two (by omega) (by omega) (by omega) q4 q8), join_two (by omega) (by omega) (by omega) X q4 q5 q8 q9, S4⟩)
          · by_cases cD : E < b
            · first
              | (exfalso; omega)
              | (have gA : ¬ (s : Int) < (m : Int) := by omega
                 have gA2 : ¬ (mid : Int) < (E : Int) := by omega
                 have gB : (s : Int) < (mid : Int) := by omega
                 have gB2 : (m : Int) < (E : Int) := by omega
                 have gC : ¬ (a : Int) < (s : Int) := by omega
                 have gD : (E : Int) < (b : Int) := by omega
                 obtain ⟨d1, hd1⟩ : ∃ d1, d1 = d := ⟨_, rfl⟩
                 have q1 : d1.size = n0 := by rw [hd1]; exact hn0
                 have q3' : PermIn a b d d1 := by rw [hd1]; exact permIn_refl _ _ _
                 have S2 : SW enc w0 blk off d1 wr := by rw [hd1]; exact S1.out
                 obtain ⟨M1, M2, X⟩ := HM.out.cut HO.out (s := s) (e := E) (mid := mid) (d1 := d1) (by omega) (by omega) (by omega) (by omega) (by omega) hx hy (fun k => by rw [hd1]; exact rot_id (by omega) (by omega) (by omega) k)
                 clear hd1
                 obtain ⟨d2, hd2⟩ : ∃ d2, d2 = d1 := ⟨_, rfl⟩
                 have q4 : PermIn a mid d1 d2 := (by rw [hd2]; exact permIn_refl _ _ _)
                 have q5 : SortedIn (stT (ltOf cf) pos) a mid d2 := (by rw [hd2]; exact M1.none_l (by omega))
                 have S3 := S2
                 rw [← hd2] at S3
                 clear hd2
                 have M2' := M2.perm q4 (Nat.le_refl _) (by omega)
                 have q6 := permIn_mono _ _ _ _ _ _ (Nat.le_refl a) (show mid ≤ b by omega) (by omega) q4
                 have q7 : d2.size = n0 := q4.1.trans q1
                 go_wp2
                 go_end0
                 obtain ⟨d3, hd3⟩ : ∃ d3, d3 = d2 := ⟨_, rfl⟩
                 have q8 : PermIn mid b d2 d3 := by rw [hd3]; exact permIn_refl _ _ _
                 have q9 : SortedIn (stT (ltOf cf) pos) mid b d3 := by rw [hd3]; exact M2'.none_l (by omega)
                 have S4 := S3
                 rw [← hd3] at S4
                 exact ⟨rfl, d3, permIn_trans _ _ _ _ _ q3' (permIn_two (by omega) (by omega) (by omega) q4 q8), join_two (by omega) (by omega) (by omega) X q4 q5 q8 q9, S4⟩)
            · first
              | (exfalso; omega)
              | (have gA : ¬ (s : Int) < (m : Int) := by omega
                 have gA2 : ¬ (mid : Int) < (E : Int) := by omega
                 have gB : (s : Int) < (mid : Int) := by omega
                 have gB2 : (m : Int) < (E : Int) := by omega
                 have gC : ¬ (a : Int) < (s : Int) := by omega
                 have gD : ¬ (E : Int) < (b : Int) := by omega
                 obtain ⟨d1, hd1⟩ : ∃ d1, d1 = d := ⟨_, rfl⟩
                 have q1 : d1.size = n0 := by rw [hd1]; exact hn0
                 have q3' : PermIn a b d d1 := by rw [hd1]; exact permIn_refl _ _ _
                 have S2 : SW enc w0 blk off d1 wr := by rw [hd1]; exact S1.out
                 obtain ⟨M1, M2, X⟩ := HM.out.cut HO.out (s := s) (e := E) (mid := mid) (d1 := d1) (by omega) (by omega) (by omega) (by omega) (by omega) hx hy (fun k => by rw [hd1]; exact rot_id (by omega) (by omega) (by omega) k)
                 clear hd1
                 obtain ⟨d2, hd2⟩ : ∃ d2, d2 = d1 := ⟨_, rfl⟩
                 have q4 : PermIn a mid d1 d2 := (by rw [hd2]; exact permIn_refl _ _ _)
                 have q5 : SortedIn (stT (ltOf cf) pos) a mid d2 := (by rw [hd2]; exact M1.none_l (by omega))
                 have S3 := S2
                 rw [← hd2] at S3
                 clear hd2
                 have M2' := M2.perm q4 (Nat.le_refl _) (by omega)
                 have q6 := permIn_mono _ _ _ _ _ _ (Nat.le_refl a) (show mid ≤ b by omega) (by omega) q4
                 have q7 : d2.size = n0 := q4.1.trans q1
                 go_wp2
                 go_end0
                 obtain ⟨d3, hd3⟩ : ∃ d3, d3 = d2 := ⟨_, rfl⟩
                 have q8 : PermIn mid b d2 d3 := by rw [hd3]; exact permIn_refl _ _ _
                 have q9 : SortedIn (stT (ltOf cf) pos) mid b d3 := by rw [hd3]; exact M2'.none_l (by omega)
                 have S4 := S3
                 rw [← hd3] at S4
                 exact ⟨rfl, d3, permIn_trans _ _ _ _ _ q3' (permIn_two (by omega) (by omega) (by omega) q4 q8), join_two (by omega) (by omega) (by omega) X q4 q5 q8 q9, S4⟩)
        · by_cases cC : a < s
          · by_cases cD : E < b
            · first
              | (exfalso; omega)
              | (have gA : ¬ (s : Int) < (m : Int) := by omega
                 have gA2 : ¬ (mid : Int) < (E : Int) := by omega
                 have gB : ¬ (s : Int) < (mid : Int) := by omega
                 have gB2 : ¬ (m : Int) < (E : Int) := by omega
                 have gC : (a : Int) < (s : Int) := by omega
                 have gD : (E : Int) < (b : Int) := by omega
                 obtain ⟨d1, hd1⟩ : ∃ d1, d1 = d := ⟨_, rfl⟩
                 have q1 : d1.size = n0 := by rw [hd1]; exact hn0
                 have q3' : PermIn a b d d1 := by rw [hd1]; exact permIn_refl _ _ _
                 have S2 : SW enc w0 blk off d1 wr := by rw [hd1]; exact S1.out
                 obtain ⟨M1, M2, X⟩ := HM.out.cut HO.out (s := s) (e := E) (mid := mid) (d1 := d1) (by omega) (by omega) (by omega) (by omega) (by omega) hx hy (fun k => by rw [hd1]; exact rot_id (by omega) (by omega) (by omega) k)
                 clear hd1
                 obtain ⟨d2, hd2⟩ : ∃ d2, d2 = d1 := ⟨_, rfl⟩
                 have q4 : PermIn a mid d1 d2 := (by rw [hd2]; exact permIn_refl _ _ _)
                 have q5 : SortedIn (stT (ltOf cf) pos) a mid d2 := (by rw [hd2]; exact M1.none_l (by omega))
                 have S3 := S2
                 rw [← hd2] at S3
                 clear hd2
                 have M2' := M2.perm q4 (Nat.le_refl _) (by omega)
                 have q6 := permIn_mono _ _ _ _ _ _ (Nat.le_refl a) (show mid ≤ b by omega) (by omega) q4
                 have q7 : d2.size = n0 := q4.1.trans q1
                 go_wp2
                 go_end0
                 obtain ⟨d3, hd3⟩ : ∃ d3, d3 = d2 := ⟨_, rfl⟩
                 have q8 : PermIn mid b d2 d3 := by rw [hd3]; exact permIn_refl _ _ _
                 have q9 : SortedIn (stT (ltOf cf) pos) mid b d3 := by rw [hd3]; exact M2'.none_l (by omega)
                 have S4 := S3
                 rw [← hd3] at S4
                 exact ⟨rfl, d3, permIn_trans _ _ _ _ _ q3' (permIn_two (by omega) (by omega) (by omega) q4 q8), join_two (by omega) (by omega) (by omega) X q4 q5 q8 q9, S4⟩)
            · first
              | (exfalso; omega)
              | (have gA : ¬ (s : Int) < (m : Int) := by omega
                 have gA2 : ¬ (mid : Int) < (E : Int) := by omega
                 have gB : ¬ (s : Int) < (mid : Int) := by omega
                 have gB2 : ¬ (m : Int) < (E : Int) := by omega
                 have gC : (a : Int) < (s : Int) := by omega
                 have gD : ¬ (E : Int) < (b : Int) := by omega
                 obtain ⟨d1, hd1⟩ : ∃ d1, d1 = d := ⟨_, rfl⟩
                 have q1 : d1.size = n0 := by rw [hd1]; exact hn0
                 have q3' : PermIn a b d d1 := by rw [hd1]; exact permIn_refl _ _ _
                 have S2 : SW enc w0 blk off d1 wr := by rw [hd1]; exact S1.out
                 obtain ⟨M1, M2, X⟩ := HM.out.cut HO.out (s := s) (e := E) (mid := mid) (d1 := d1) (by omega) (by omega) (by omega) (by omega) (by omega) hx hy (fun k => by rw [hd1]; exact rot_id (by omega) (by omega) (by omega) k)
                 clear hd1
                 obtain ⟨d2, hd2⟩ : ∃ d2, d2 = d1 := ⟨_, rfl⟩
                 have q4 : PermIn a mid d1 d2 := (by rw [hd2]; exact permIn_refl _ _ _)
                 have q5 : SortedIn (stT (ltOf cf) pos) a mid d2 := (by rw [hd2]; exact M1.none_l (by omega))
                 have S3 := S2
                 rw [← hd2] at S3
                 clear hd2
                 have M2' := M2.perm q4 (Nat.le_refl _) (by omega)
                 have q6 := permIn_mono _ _ _ _ _ _ (Nat.le_refl a) (show mid ≤ b by omega) (by omega) q4
                 have q7 : d2.size = n0 := q4.1.trans q1
                 go_wp2
                 go_end0
                 obtain ⟨d3, hd3⟩ : ∃ d3, d3 = d2 := ⟨_, rfl⟩
                 have q8 : PermIn mid b d2 d3 := by rw [hd3]; exact permIn_refl _ _ _
                 have q9 : SortedIn (stT (ltOf cf) pos) mid b d3 := by rw [hd3]; exact M2'.none_l (by omega)
                 have S4 := S3
                 rw [← hd3] at S4
                 exact ⟨rfl, d3, permIn_trans _ _ _ _ _ q3' (permIn_two (by omega) (by omega) (by omega) q4 q8), join_two (by omega) (by omega) (by omega) X q4 q5 q8 q9, S4⟩)
          · by_cases cD : E < b
            · first
              | (exfalso; omega)
              | (have gA : ¬ (s : Int) < (m : Int) := by omega
                 have gA2 : ¬ (mid : Int) < (E : Int) := by omega
                 have gB : ¬ (s : Int) < (mid : Int) := by omega
                 have gB2 : ¬ (m : Int) < (E : Int) := by omega
                 have gC : ¬ (a : Int) < (s : Int) := by omega
                 have gD : (E : Int) < (b : Int) := by omega
                 obtain ⟨d1, hd1⟩ : ∃ d1, d1 = d := ⟨_, rfl⟩
                 have q1 : d1.size = n0 := by rw [hd1]; exact hn0
                 have q3' : PermIn a b d d1 := by rw [hd1]; exact permIn_refl _ _ _
                 have S2 : SW enc w0 blk off d1 wr := by rw [hd1]; exact S1.out
                 obtain ⟨M1, M2, X⟩ := HM.out.cut HO.out (s := s) (e := E) (mid := mid) (d1 := d1) (by omega) (by omega) (by omega) (by omega) (by omega) hx hy (fun k => by rw [hd1]; exact rot_id (by omega) (by omega) (by omega) k)
                 clear hd1
                 obtain ⟨d2, hd2⟩ : ∃ d2, d2 = d1 := ⟨_, rfl⟩
                 have q4 : PermIn a mid d1 d2 := (by rw [hd2]; exact permIn_refl _ _ _)
                 have q5 : SortedIn (stT (ltOf cf) pos) a mid d2 := (by rw [hd2]; exact M1.none_l (by omega))
                 have S3 := S2
                 rw [← hd2] at S3
                 clear hd2
                 have M2' := M2.perm q4 (Nat.le_refl _) (by omega)
                 have q6 := permIn_mono _ _ _ _ _ _ (Nat.le_refl a) (show mid ≤ b by omega) (by omega) q4
                 have q7 : d2.size = n0 := q4.1.trans q1
                 go_wp2
                 go_end0
                 obtain ⟨d3, hd3⟩ : ∃ d3, d3 = d2 := ⟨_, rfl⟩
                 have q8 : PermIn mid b d2 d3 := by rw [hd3]; exact permIn_refl _ _ _
                 have q9 : SortedIn (stT (ltOf cf) pos) mid b d3 := by rw [hd3]; exact M2'.none_l (by omega)
                 have S4 := S3
                 rw [← hd3] at S4
                 exact ⟨rfl, d3, permIn_trans _ _ _ _ _ q3' (permIn_two (by omega) (by omega) (by omega) q4 q8), join_two (by omega) (by omega) (by omega) X q4 q5 q8 q9, S4⟩)
            · first
              | (exfalso; omega)
              | (have gA : ¬ (s : Int) < (m : Int) := by omega
                 have gA2 : ¬ (mid : Int) < (E : Int) := by omega
                 have gB : ¬ (s : Int) < (mid : Int) := by omega
                 have gB2 : ¬ (m : Int) < (E : Int) := by omega
                 have gC : ¬ (a : Int) < (s : Int) := by omega
                 have gD : ¬ (E : Int) < (b : Int) := by omega
                 obtain ⟨d1, hd1⟩ : ∃ d1, d1 = d := ⟨_, rfl⟩
                 have q1 : d1.size = n0 := by rw [hd1]; exact hn0
                 have q3' : PermIn a b d d1 := by rw [hd1]; exact permIn_refl _ _ _
                 have S2 : SW enc w0 blk off d1 wr := by rw [hd1]; exact S1.out
                 obtain ⟨M1, M2, X⟩ := HM.out.cut HO.out (s := s) (e := E) (mid := mid) (d1 := d1) (by omega) (by omega) (by omega) (by omega) (by omega) hx hy (fun k => by rw [hd1]; exact rot_id (by omega) (by omega) (by omega) k)
                 clear hd1
                 obtain ⟨d2, hd2⟩ : ∃ d2, d2 = d1 := ⟨_, rfl⟩
                 have q4 : PermIn a mid d1 d2 := (by rw [hd2]; exact permIn_refl _ _ _)
                 have q5 : SortedIn (stT (ltOf cf) pos) a mid d2 := (by rw [hd2]; exact M1.none_l (by omega))
                 have S3 := S2
                 rw [← hd2] at S3
                 clear hd2
                 have M2' := M2.perm q4 (Nat.le_refl _) (by omega)
                 have q6 := permIn_mono _ _ _ _ _ _ (Nat.le_refl a) (show mid ≤ b by omega) (by omega) q4
                 have q7 : d2.size = n0 := q4.1.trans q1
                 go_wp2
                 go_end0
                 obtain ⟨d3, hd3⟩ : ∃ d3, d3 = d2 := ⟨_, rfl⟩
                 have q8 : PermIn mid b d2 d3 := by rw [hd3]; exact permIn_refl _ _ _
                 have q9 : SortedIn (stT (ltOf cf) pos) mid b d3 := by rw [hd3]; exact M2'.none_l (by omega)
                 have S4 := S3
                 rw [← hd3] at S4
                 exact ⟨rfl, d3, permIn_trans _ _ _ _ _ q3' (permIn_two (by omega) (by omega) (by omega) q4 q8), join_two (by omega) (by omega) (by omega) X q4 q5 q8 q9, S4⟩)

end Go.Proofs.YtekhnolpgoejdaaGreat
