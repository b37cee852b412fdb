/-
  What each function of package poly answers, and what the reference of its chapter answers: one contract a function, for every float: the answer stands in the relation of its formula to what was given; of the memory that was there nothing has turned.
-/
import Derived.Test.YtdeooadeohojcaaGreatVec
import Derived.Test.YtdeooadeohojcaaGreatRc
import Derived.Below
import Derived.OwnWalk
import Derived.WalkKit
import Derived.WalkLawsBesides
import Derived.WalkSpells
import Derived.ProofKit
import Derived.OpenShut
import Derived.Deep.RegionHeld3
namespace Go.Proofs.YtdeooadeohojcaaGreat
open Go.ChangeShapes Go.WideShapes Go.ChangeAt Go.RowKit
set_option linter.unusedVariables false
set_option linter.unusedSimpArgs false


theorem lst_succ (xs ys : Nat → Nat) (n : Nat) : lst xs ys (n + 1) = lst xs ys n ++ [(xs n, ys n)] := by unfold lst; rw [List.range_succ, List.map_append]; rfl
set_option maxRecDepth 100000 in
set_option maxHeartbeats 1000000 in
theorem rnormals_ok (b off n cap : Nat) (xs ys : Nat → Nat) (w : World) (sB : Sl w b off n xs ys) (o_ : Oks xs ys n) (hp : 0 < n) (hn : n ≤ maxLen) (hcap : n ≤ cap) (hr : n * 16 ≤ 140737488351232) (hch : chkE xs ys n = 0) : Calls Tryz.prog 48 #[.slice (some ⟨b, off, none⟩) n cap] w fun e w' => ∃ v, e = .returned (.tuple #[v, .int .i64 0]) ∧ Own w.heap.size w' v (lst (nX xs ys n) (nY xs ys n) n) ∧ Bel w w' := by
  have CHK := rchk_some b off n cap xs ys w sB o_ hp hn hcap
  rw [hch] at CHK
  obtain ⟨g, h3, h64, _⟩ := chk_ok o_ hch
  go_enter Tryz.func48, Tryz.ntmps48
  go_wp2_with (first | (go_at_call 74; refine CHK.mono ?_; rintro e w_1 ⟨rfl, B1⟩))
  clear CHK
  go_loopw [6, 5] (fun i' v' wr => ∃ kx : Nat, kx ≤ n ∧ i' = .int .i64 kx ∧ Bel w wr ∧ Own w.heap.size wr v' (lst (nX xs ys n) (nY xs ys n) kx)) (fun i' _ _ => n - (intOf i').toNat)
  case atStart => exact ⟨0, by omega, rfl, B1, Own.nil _ _⟩
  case round =>
    obtain ⟨kx, hk, rfl, hB, hO⟩ := hrel
    by_cases hlt : kx < n
    · have k1 : (kx : Int) < (n : Int) := by omega
      have hO0 := hO
      rcases hO with ⟨rfl, _⟩ | ⟨gg, cc, rfl, _, hcc, _, _, _, _⟩
      all_goals
        have hbig : (kx + 1) * 16 ≤ 140737488355328 := by omega
        go_wp2_with (first | (go_at_call 75; refine (rnormal_d b off n cap xs ys _ (sB.bel hB) g kx hlt hn hcap).mono ?_; rintro e w_2 ⟨rfl, hb⟩; have B2 := bl_trans hB hb; have hO2 := hO0.bel hb; simp only []; rename_i hKK; refine hKK _ _ ?_; refine wpList_plain rfl (fun K hK => ?_); go_simp; refine hK _ _ ?_; clear hK K; refine wpList_app (M := [(nX xs ys n kx, nY xs ys n kx)]) rfl _ _ rfl rfl _ 0 1 rfl (hO2.bel (bl_alloc (bl_refl w_2) _ _)) (one_sl w_2 (nX xs ys n kx, nY xs ys n kx)) (Nat.succ_pos _) (Nat.le_trans B2.size (bl_alloc (bl_refl w_2) _ _).size) (by rw [lst_len]; exact hbig) ?_; intro v1 w_3 hO3 hb3; have B3 := hb3 w (bl_alloc B2 _ _) (Nat.le_refl _)))
        exact ⟨⟨kx + 1, by omega, by go_num, B3, by rw [lst_succ]; exact hO3⟩, by simp [intOf]; omega⟩
    · have hkn : kx = n := by omega
      subst hkn
      go_wp2
      refine bodyPost_ret (v := .tuple #[_, .int .i64 0]) (by simp [results, Tryz.results48, go_sem] <;> rfl) rfl ⟨_, rfl, hO, hB⟩
theorem rnormals_bad (b off n cap : Nat) (xs ys : Nat → Nat) (w : World) (sB : Sl w b off n xs ys) (o_ : Oks xs ys n) (hp : 0 < n) (hn : n ≤ maxLen) (hcap : n ≤ cap) (hr : n * 16 ≤ 140737488351232) (hch : ¬ chkE xs ys n = 0) : Calls Tryz.prog 48 #[.slice (some ⟨b, off, none⟩) n cap] w fun e w' => e = .returned (.tuple #[.slice none 0 0, .int .i64 (chkE xs ys n)]) ∧ Bel w w' := by
  have CHK := rchk_some b off n cap xs ys w sB o_ hp hn hcap
  obtain ⟨v, hv⟩ : ∃ v, chkE xs ys n = v := ⟨_, rfl⟩
  rw [hv] at CHK hch
  go_enter Tryz.func48, Tryz.ntmps48
  go_wp2_with (first | (go_at_call 74; refine CHK.mono ?_; rintro e w_1 ⟨rfl, B1⟩))
  all_goals
    refine bodyPost_ret (v := .tuple #[.slice none 0 0, .int .i64 v]) (by simp [results, Tryz.results48, go_sem] <;> (first | exact ⟨⟨rfl, rfl⟩, rfl⟩ | exact ⟨rfl, rfl, rfl, rfl⟩ | exact ⟨rfl, rfl, rfl⟩ | exact ⟨rfl, rfl⟩ | rfl)) rfl ⟨by rw [hv], B1⟩
end Go.Proofs.YtdeooadeohojcaaGreat
