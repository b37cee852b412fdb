/-
  What each function of package poly answers, and what the reference of its chapter answers: one contract a function, for every float: the answer stands in the relation of its formula to what was given; of the memory that was there nothing has turned.
-/
import Derived.Test.YtdeooadeohojcaaGreatVec
import Derived.Test.YtdeooadeohojcaaGreatRb
import Derived.Below
import Derived.WalkKit
import Derived.WalkLawsBesides
import Derived.WalkSpells
import Derived.ProofKit
import Derived.OpenShut
import Derived.Deep.RegionHeld3
namespace Go.Proofs.YtdeooadeohojcaaGreat
open Go.ChangeShapes Go.WideShapes Go.ChangeAt Go.RowKit
set_option linter.unusedVariables false
set_option linter.unusedSimpArgs false


set_option maxHeartbeats 2000000 in
theorem rhas_d (b off n cap : Nat) (xs ys : Nat → Nat) (w : World) (sB : Sl w b off n xs ys) (o_ : Oks xs ys n) (hp : 0 < n) (hn : n ≤ maxLen) (hcap : n ≤ cap) (hr : n * 16 ≤ 140737488351232) (p q : Nat) (op : okK .f64 p) (oq : okK .f64 q) : Calls Tryz.prog 49 #[.slice (some ⟨b, off, none⟩) n cap, .agg #[.float .f64 p, .float .f64 q]] w fun e w' => e = .returned (.tuple #[.bool (hasV xs ys n p q), .int .i64 (withE xs ys n p q)]) ∧ Bel w w' := by
  have anyV : AnyS w (.slice (some ⟨b, off, none⟩) n cap) n xs ys := ⟨_, _, rfl, hcap, hn, hr, o_, .inr ⟨hp, _, _, rfl, sB⟩⟩
  have CHK := rchk_any _ n xs ys _ (anyV.bel (bl_alloc (bl_refl w) #[.float .f64 p, .float .f64 q] 24))
  have B0 := bl_alloc (bl_refl w) #[.float .f64 p, .float .f64 q] 24
  obtain ⟨z0, z1⟩ : (w.alloc (.cells #[.float .f64 p, .float .f64 q] 24)).cell? ⟨w.heap.size, 0, none⟩ = some (.float .f64 p) ∧ (w.alloc (.cells #[.float .f64 p, .float .f64 q] 24)).cell? ⟨w.heap.size, 1, none⟩ = some (.float .f64 q) := cell_own (by simp) _ _ _
  have om : okK .f64 4787326403894837248 := by rw [okK64]; decide
  by_cases hch : chkE xs ys n = 0
  · rw [hch] at CHK
    obtain ⟨g, h3, h64, _⟩ := chk_ok o_ hch
    cases hw : (withinK .f64 p 4787326403894837248 && withinK .f64 q 4787326403894837248)
    · have ew : withE xs ys n p q = 5 := by unfold withE; rw [if_pos hch, hw]; rfl
      go_enter Tryz.func49, Tryz.ntmps49
      go_wp2_with (first | (go_at_call 74; refine CHK.mono ?_; rintro e w_1 ⟨rfl, hb⟩; have B1 := bl_trans B0 hb; replace z0 := keep hb z0; replace z1 := keep hb z1) | (go_at_call 59; refine (rWithin_any _ _ _ op oq om _).mono ?_; rintro e w_2 ⟨rfl, hb⟩; rw [hw]; have B2 := bl_trans B1 hb; replace z0 := keep hb z0; replace z1 := keep hb z1))
      refine bodyPost_ret (v := .tuple #[.bool false, .int .i64 5]) (by simp [results, Tryz.results49, go_sem] <;> (first | exact ⟨⟨rfl, rfl⟩, rfl⟩ | exact ⟨rfl, rfl, rfl, rfl⟩ | exact ⟨rfl, rfl, rfl⟩ | exact ⟨rfl, rfl⟩ | rfl)) rfl ⟨by unfold hasV; rw [ew]; rfl, B2⟩
    · have ew : withE xs ys n p q = 0 := by unfold withE; rw [if_pos hch, hw]; rfl
      obtain ⟨_, b1, b2⟩ := with_ok o_ op oq ew
      have c1 := cmp_lt .f64
      have c2 := cmp_gt .f64
      go_enter Tryz.func49, Tryz.ntmps49
      go_wp2_with (first | (go_at_call 74; refine CHK.mono ?_; rintro e w_1 ⟨rfl, hb⟩; have B1 := bl_trans B0 hb; replace z0 := keep hb z0; replace z1 := keep hb z1) | (go_at_call 59; refine (rWithin_any _ _ _ op oq om _).mono ?_; rintro e w_2 ⟨rfl, hb⟩; rw [hw]; have B2 := bl_trans B1 hb; replace z0 := keep hb z0; replace z1 := keep hb z1))
      go_loopw [7] (fun i' wr => ∃ kx : Nat, kx ≤ n ∧ i' = .int .i64 kx ∧ Bel w wr ∧ wr.cell? ⟨w.heap.size, 0, none⟩ = some (.float .f64 p) ∧ wr.cell? ⟨w.heap.size, 1, none⟩ = some (.float .f64 q) ∧ ∀ i, i < kx → ltK .f64 (lnS xs ys n i p q) 0 = false) (fun i' _ => n - (intOf i').toNat)
      case atStart => exact ⟨0, by omega, rfl, B2, z0, z1, fun i h => by omega⟩
      case round =>
        obtain ⟨kx, hk, rfl, hB, d0, d1, hq⟩ := hrel
        by_cases hlt : kx < n
        · have k1 : (kx : Int) < (n : Int) := by omega
          cases hw2 : ltK .f64 (lnS xs ys n kx p q) 0
          all_goals
            go_wp2_with (first | (go_at_call 76; refine (left_d b off n cap xs ys _ (sB.bel hB) g kx hlt hn hcap p q b1 b2).mono ?_; rintro e w_3 ⟨rfl, hb⟩; have B3 := bl_trans hB hb))
          · refine ⟨⟨kx + 1, by omega, by go_num, B3, keep hb d0, keep hb d1, fun i h => ?_⟩, by simp [intOf]; omega⟩
            rcases Nat.lt_or_ge i kx with h' | h'
            · exact hq i h'
            · rw [show i = kx by omega]; exact hw2
          · refine bodyPost_ret (v := .tuple #[.bool false, .int .i64 0]) (by simp [results, Tryz.results49, go_sem] <;> (first | exact ⟨⟨rfl, rfl⟩, rfl⟩ | exact ⟨rfl, rfl, rfl, rfl⟩ | exact ⟨rfl, rfl, rfl⟩ | exact ⟨rfl, rfl⟩ | rfl)) rfl ⟨by rw [ew]; unfold hasV; rw [ew, has_no (xs := xs) (ys := ys) (p := p) (q := q) hlt hw2]; rfl, B3⟩
        · have hkn : kx = n := by omega
          subst hkn
          go_wp2
          refine bodyPost_ret (v := .tuple #[.bool true, .int .i64 0]) (by simp [results, Tryz.results49, go_sem] <;> (first | exact ⟨⟨rfl, rfl⟩, rfl⟩ | exact ⟨rfl, rfl, rfl, rfl⟩ | exact ⟨rfl, rfl, rfl⟩ | exact ⟨rfl, rfl⟩ | rfl)) rfl ⟨by rw [ew]; unfold hasV hasB; rw [ew, allB_iff.2 (fun i hi => by rw [hq i hi]; rfl)]; rfl, hB⟩
  · obtain ⟨v, hv⟩ : ∃ v, chkE xs ys n = v := ⟨_, rfl⟩
    have ew : withE xs ys n p q = v := by unfold withE; rw [if_neg hch, hv]
    rw [hv] at CHK hch
    go_enter Tryz.func49, Tryz.ntmps49
    go_wp2_with (first | (go_at_call 74; refine CHK.mono ?_; rintro e w_1 ⟨rfl, hb⟩; have B1 := bl_trans B0 hb; replace z0 := keep hb z0; replace z1 := keep hb z1))
    all_goals
      refine bodyPost_ret (v := .tuple #[.bool false, .int .i64 v]) (by simp [results, Tryz.results49, go_sem] <;> (first | exact ⟨⟨rfl, rfl⟩, rfl⟩ | exact ⟨rfl, rfl, rfl, rfl⟩ | exact ⟨rfl, rfl, rfl⟩ | exact ⟨rfl, rfl⟩ | rfl)) rfl ⟨by unfold hasV; rw [ew]; simp [hch], B1⟩


end Go.Proofs.YtdeooadeohojcaaGreat
