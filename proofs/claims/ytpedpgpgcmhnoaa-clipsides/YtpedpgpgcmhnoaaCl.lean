/-
  What each function of package poly answers, and what the reference of its chapter answers: one contract a function, for every float: the answer stands in the relation of its formula to what was given; of the memory that was there nothing has turned.
-/
import Derived.Test.YtpedpgpgcmhnoaaVec
import Derived.Test.YtpedpgpgcmhnoaaCk
import Derived.Test.YtpedpgpgcmhnoaaClq
import Derived.Below
import Derived.WalkKit
import Derived.WalkLawsBesides
import Derived.WalkSpells
import Derived.ProofKit
import Derived.OpenShut
import Derived.Deep.RegionHeld3
namespace Go.Proofs.Ytpedpgpgcmhnoaa
open Go.ChangeShapes Go.WideShapes Go.ChangeAt Go.RowKit
set_option linter.unusedVariables false
set_option linter.unusedSimpArgs false


set_option maxRecDepth 100000 in
set_option maxHeartbeats 2000000 in
theorem both_ok (a ao n ca b bo m cb : Nat) (us vs xs ys : Nat → Nat) (w : World) (ha : Sl w a ao n us vs) (oka : Oks us vs n) (hn0 : 0 < n) (hna : n ≤ maxLen) (hca : n ≤ ca) (hza : chkE us vs n = 0) (hb_ : Sl w b bo m xs ys) (okb : Oks xs ys m) (hm0 : 0 < m) (hmb : m ≤ maxLen) (hcb : m ≤ cb) (hzb : chkE xs ys m = 0) : Calls Try.prog 20 #[.slice (some ⟨a, ao, none⟩) n ca, .slice (some ⟨b, bo, none⟩) m cb] w fun e w' => ∃ v, e = .returned (.tuple #[v, .int .i64 0]) ∧ NewS w.heap.size w' v (bothL xs ys m (lst us vs n) m) ∧ Bel w w' := by
  obtain ⟨ga, h3a, h64a, _⟩ := chk_ok oka hza
  obtain ⟨gb, h3b, h64b, hout⟩ := chk_ok okb hzb
  have hbd := both_bd gb hout (lst_bd ga) h64b
  go_enter Try.func20, Try.ntmps20
  go_wp2_with (first | (go_at_call 18; refine (chk_some a ao n ca us vs w ha oka hn0 hna hca).mono ?_; rintro e w_1 ⟨rfl, hb1⟩; rw [hza]) | (go_at_call 19; refine (sides_ok b bo m cb xs ys w_1 (hb_.bel hb1) okb hm0 hmb hcb hzb).mono ?_; rintro e w_2 ⟨r, rfl, hr, hP, hb2⟩))
  have B2 := bl_trans hb1 hb2
  have z1 := hb1.size
  clear hb1 hb2
  go_loopw [28, 9] (fun i' v' wr => ∃ kx q c o d : Nat, kx ≤ m ∧ i' = .int .i64 kx ∧ (bothL xs ys m (lst us vs n) kx).length = q ∧ 0 < q ∧ v' = .slice (some ⟨d, o, none⟩) q c ∧ q ≤ c ∧ Bel w_2 wr ∧ Sl wr d o q (px (bothL xs ys m (lst us vs n) kx)) (py (bothL xs ys m (lst us vs n) kx)) ∧ (0 < kx → Fresh w.heap.size wr v' (bothL xs ys m (lst us vs n) kx))) (fun i' _ _ => m - (intOf i').toNat)
  case atStart => exact ⟨0, n, ca, ao, a, by omega, rfl, lst_len _ _ _, hn0, rfl, hca, bl_refl _, sl_lst (ha.bel B2), fun h => absurd h (by decide)⟩
  case round =>
    obtain ⟨kx, q, c, o, d, hk, rfl, hq, hq0, rfl, hqc, hB, hS, hF⟩ := hrel
    by_cases hlt : kx < m
    · have k1 : (kx : Int) < (m : Int) := by omega
      have hq4 := both_cap (xs := xs) (ys := ys) (n := m) (L := lst us vs n) (by rw [lst_len]; exact h64a) (show kx ≤ 63 by omega)
      rw [hq] at hq4
      have hpB := sd_bd gb hlt (hout kx hlt)
      obtain ⟨p0, p1, p2⟩ := (hP.bel hB) kx hlt
      have lr := World.block_lt_of_cell? _ _ p0
      simp only [Nat.zero_add] at p0 p1 p2
      simp only at lr
      have LD := leftOf_d d o q c (bothL xs ys m (lst us vs n) kx) (40 + 8 * kx) (sdP xs ys m kx).1 (sdP xs ys m kx).2.1 (sdP xs ys m kx).2.2 (wr.alloc (.cells #[.float .f64 (sdP xs ys m kx).1, .float .f64 (sdP xs ys m kx).2.1, .float .f64 (sdP xs ys m kx).2.2] 26)) hq (hS.bel (bl_alloc (bl_refl wr) _ _)) hq0 hq4 hqc hpB (hbd kx hk) (by omega)
      rw [show leftL ((sdP xs ys m kx).1, (sdP xs ys m kx).2.1, (sdP xs ys m kx).2.2) (bothL xs ys m (lst us vs n) kx) = bothL xs ys m (lst us vs n) (kx + 1) from rfl] at LD
      have zr := (bl_trans B2 hB).size
      cases hM : bothL xs ys m (lst us vs n) (kx + 1) with
      | nil =>
        rw [hM] at LD
        have hnil := both_nil hM (m - (kx + 1))
        rw [show kx + 1 + (m - (kx + 1)) = m by omega] at hnil
        go_wp2_with (first | (go_at_call 52; refine LD.mono ?_; rintro e w_5 ⟨v, rfl, hN, hb⟩; rcases hN with ⟨_, rfl⟩ | ⟨h0, _⟩; rotate_left 1; exact absurd h0 (by decide)))
        refine bodyPost_ret (v := .tuple #[.slice none 0 0, .int .i64 0]) (by simp [results, Try.results20, go_sem] <;> (first | exact ⟨⟨rfl, rfl⟩, rfl⟩ | exact ⟨rfl, rfl, rfl, rfl⟩ | exact ⟨rfl, rfl, rfl⟩ | exact ⟨rfl, rfl⟩ | rfl)) rfl ⟨_, rfl, .inl ⟨hnil, rfl⟩, bl_trans B2 (bl_trans hB (bl_trans (bl_alloc (bl_refl wr) _ _) hb))⟩
      | cons f t =>
        have hpos : 0 < (bothL xs ys m (lst us vs n) (kx + 1)).length := by rw [hM]; exact Nat.succ_pos _
        clear hM
        obtain ⟨q', hq'⟩ : ∃ q', (bothL xs ys m (lst us vs n) (kx + 1)).length = q' := ⟨_, rfl⟩
        rw [hq'] at hpos
        have hpI : ¬ (q' : Int) = 0 := by omega
        have hpN : ¬ q' = 0 := by omega
        go_wp2_with (first | (go_at_call 52; refine LD.mono ?_; rintro e w_5 ⟨v, rfl, hN, hb⟩; have hF5 := hN.some (by rw [hq']; exact hpos); obtain ⟨g5, rfl, h51, h52, h53⟩ := hF5; rw [hq'] at h52; rw [hq']))
        have B5 : Bel wr w_5 := bl_trans (bl_alloc (bl_refl wr) _ _) hb
        have h51' : w.heap.size ≤ g5 := by rw [World.size_alloc] at h51; omega
        refine ⟨⟨kx + 1, q', q', 0, g5, by omega, by go_num, hq', hpos, rfl, Nat.le_refl _, bl_trans hB B5, h52, fun _ => ⟨g5, by rw [hq'], h51', by rw [hq']; exact h52, h53⟩⟩, by simp [intOf]; omega⟩
    · have hkn : kx = m := by omega
      subst hkn
      go_wp2
      refine bodyPost_ret (v := .tuple #[.slice (some ⟨d, o, none⟩) q c, .int .i64 0]) (by simp [results, Try.results20, go_sem] <;> (first | exact ⟨⟨rfl, rfl⟩, rfl⟩ | exact ⟨rfl, rfl, rfl, rfl⟩ | exact ⟨rfl, rfl, rfl⟩ | exact ⟨rfl, rfl⟩ | rfl)) rfl ⟨_, rfl, .inr ⟨by omega, hF hm0⟩, bl_trans B2 hB⟩

end Go.Proofs.Ytpedpgpgcmhnoaa
