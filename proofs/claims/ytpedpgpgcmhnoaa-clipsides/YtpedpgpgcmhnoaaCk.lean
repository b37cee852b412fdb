/-
  What each function of package poly answers, and what the reference of its chapter answers: one contract a function, for every float: the answer stands in the relation of its formula to what was given; of the memory that was there nothing has turned.
-/
import Derived.Test.YtpedpgpgcmhnoaaVec
import Derived.Test.YtpedpgpgcmhnoaaCj
import Derived.Test.YtpedpgpgcmhnoaaMulti
import Derived.Below
import Derived.WalkKit
import Derived.WalkLawsBesides
import Derived.WalkSpells
import Derived.ProofKit
import Derived.OpenShut
import Derived.Deep.RegionHeld3
namespace Go.Proofs.Ytpedpgpgcmhnoaa
open Go.ChangeShapes Go.WideShapes Go.ChangeAt Go.RowKit
set_option linter.unusedVariables false
set_option linter.unusedSimpArgs false


/-- planes that lie in a row -/
def Sp (w : World) (b off n : Nat) (P : Nat → Pn) : Prop := ∀ i, i < n → w.cell? ⟨b, off + i * 3, none⟩ = some (.float .f64 (P i).1) ∧ w.cell? ⟨b, off + i * 3 + 1, none⟩ = some (.float .f64 (P i).2.1) ∧ w.cell? ⟨b, off + i * 3 + 2, none⟩ = some (.float .f64 (P i).2.2)
theorem Sp.bel {w w' : World} {b off n : Nat} {P : Nat → Pn} (h : Sp w b off n P) (g : Bel w w') : Sp w' b off n P := fun i hi => ⟨keep g (h i hi).1, keep g (h i hi).2.1, keep g (h i hi).2.2⟩
theorem Sp.eq {w : World} {b off n : Nat} {P Q : Nat → Pn} (h : Sp w b off n P) (e : ∀ i, i < n → P i = Q i) : Sp w b off n Q := fun i hi => by rw [← e i hi]; exact h i hi
theorem pl_set {w : World} {b n k : Nat} {P : Nat → Pn} {p : Pn} (h : Sp w b 0 n P) (hk : k < n) : Sp (((w.setCell ⟨b, k * 3, none⟩ (.float .f64 p.1)).setCell ⟨b, k * 3 + 1, none⟩ (.float .f64 p.2.1)).setCell ⟨b, k * 3 + 2, none⟩ (.float .f64 p.2.2)) b 0 n (fun i => if i = k then p else P i) := by
  intro i hi
  obtain ⟨h0, h1, h2⟩ := h i hi
  simp only [Nat.zero_add] at h0 h1 h2 ⊢
  by_cases e : i = k
  · subst e
    simp only [if_true]
    exact ⟨cell_apart (by omega) (cell_apart (by omega) (World.cell?_setCell_same _ _ _ h0)), cell_apart (by omega) (World.cell?_setCell_same _ _ _ (cell_apart (by omega) h1)), World.cell?_setCell_same _ _ _ (cell_apart (by omega) (cell_apart (by omega) h2))⟩
  · simp only [if_neg e]
    exact ⟨cell_apart (by omega) (cell_apart (by omega) (cell_apart (by omega) h0)), cell_apart (by omega) (cell_apart (by omega) (cell_apart (by omega) h1)), cell_apart (by omega) (cell_apart (by omega) (cell_apart (by omega) h2))⟩
theorem make_pl (n : Nat) (hn : n ≤ 1000) (W : World) : (Instr.makeSlice 44 (.int .i64 n) (.int .i64 n)).run Try.prog W = .ok (.slice (some ⟨W.heap.size, 0, none⟩) n n) (W.alloc (.cells (madeCells #[.float .f64 0, .float .f64 0, .float .f64 0] (n * 3)) 26)) := by
  have h := run_make (P := Try.prog) W 44 26 Try.t26 (.agg #[.float .f64 0, .float .f64 0, .float .f64 0]) Try.underlying44 (by kernel_rfl) (by kernel_rfl) .i64 .i64 n n (by omega) (by omega) (by show ((24 : Nat) : Int) * n ≤ _; omega) (by omega)
  exact h
theorem made_sp (W : World) (t : TypeId) (n : Nat) : Sp (W.alloc (.cells (madeCells #[.float .f64 0, .float .f64 0, .float .f64 0] (n * 3)) t)) W.heap.size 0 n (fun _ => (0, 0, 0)) := by
  intro i hi
  rw [World.cell?_alloc_new, World.cell?_alloc_new, World.cell?_alloc_new]
  have h1 : 0 + i * 3 < n * 3 := by omega
  have h2 : 0 + i * 3 + 1 < n * 3 := by omega
  have h3 : 0 + i * 3 + 2 < n * 3 := by omega
  have m1 : (0 + i * 3) % 3 = 0 := by omega
  have m2 : (0 + i * 3 + 1) % 3 = 1 := by omega
  have m3 : (0 + i * 3 + 2) % 3 = 2 := by omega
  refine ⟨?_, ?_, ?_⟩ <;> simp only [madeCells] <;> simp_all
set_option maxRecDepth 100000 in
set_option maxHeartbeats 2000000 in
theorem sides_ok (b off n cap : Nat) (xs ys : Nat → Nat) (w : World) (hs : Sl w b off n xs ys) (ok : Oks xs ys n) (hp : 0 < n) (hn : n ≤ maxLen) (hcap : n ≤ cap) (hz : chkE xs ys n = 0) : Calls Try.prog 19 #[.slice (some ⟨b, off, none⟩) n cap] w fun e w' => ∃ r, e = .returned (.tuple #[.slice (some ⟨r, 0, none⟩) n n, .int .i64 0]) ∧ w.heap.size ≤ r ∧ Sp w' r 0 n (sdP xs ys n) ∧ Bel w w' := by
  obtain ⟨g, h3, h64, hout⟩ := chk_ok ok hz
  have hmk := make_pl n (by omega)
  go_enter Try.func19, Try.ntmps19
  go_wp2_with (first | (go_at_call 23; refine (normals_ok b off n cap xs ys w hs ok hp hn hcap hz).mono ?_; rintro e w_1 ⟨r, rfl, Bw, hr, hN⟩))
  have hM := made_sp w_1 26 n
  have BM := bl_alloc Bw (madeCells #[.float .f64 0, .float .f64 0, .float .f64 0] (n * 3)) 26
  have BN := bl_alloc (bl_refl w_1) (madeCells #[.float .f64 0, .float .f64 0, .float .f64 0] (n * 3)) 26
  have lr := Bw.size
  go_loopw [22] (fun i' wr => ∃ kx : Nat, kx ≤ n ∧ i' = .int .i64 kx ∧ Bel w wr ∧ Bel w_1 wr ∧ Sp wr w_1.heap.size 0 n (fun i => if i < kx then sdP xs ys n i else (0, 0, 0))) (fun i' _ => n - (intOf i').toNat)
  case atStart => exact ⟨0, by omega, rfl, BM, BN, hM.eq (fun i _ => by simp)⟩
  case round =>
    obtain ⟨kx, hk, rfl, hB, hB1, hR⟩ := hrel
    by_cases hlt : kx < n
    · have k1 : (kx : Int) < (n : Int) := by omega
      obtain ⟨wb1, wb2⟩ := wX_bd g hlt
      obtain ⟨_, n1, n2⟩ := n_bd wb1 wb2 (out_len (hout kx hlt))
      have n1 : Bd 80 (nX xs ys n kx) := n1
      have n2 : Bd 80 (nY xs ys n kx) := n2
      obtain ⟨g1, g2⟩ := g kx hlt
      obtain ⟨t0, t1⟩ := (hN.bel hB1) kx hlt
      have hr9 := World.block_lt_of_cell? _ _ t0
      simp only [Nat.zero_add] at t0 t1
      simp only at hr9
      have y0 : (wr.alloc (.cells #[.float .f64 (nX xs ys n kx), .float .f64 (nY xs ys n kx)] 24)).cell? ⟨wr.heap.size, 0, none⟩ = some (.float .f64 (nX xs ys n kx)) := by rw [World.cell?_alloc_new]; rfl
      have y1 : (wr.alloc (.cells #[.float .f64 (nX xs ys n kx), .float .f64 (nY xs ys n kx)] 24)).cell? ⟨wr.heap.size, 1, none⟩ = some (.float .f64 (nY xs ys n kx)) := by rw [World.cell?_alloc_new]; rfl
      obtain ⟨v0, v1⟩ := (hs.bel (bl_alloc hB #[.float .f64 (nX xs ys n kx), .float .f64 (nY xs ys n kx)] 24)) kx hlt
      go_wp2
      refine wp_region_multiA 11 (fun i v => match i with | 0 => v = .slice (some ⟨w_1.heap.size, 0, none⟩) n n | 1 => v = .int .i64 (kx : Int) | 2 => v = .agg #[.float .f64 (nX xs ys n kx), .float .f64 (nY xs ys n kx)] | 3 => v = .agg #[.float .f64 (nX xs ys n kx), .float .f64 (nY xs ys n kx)] | 4 => v = .slice (some ⟨b, off, none⟩) n cap | 5 => v = .int .i64 (kx : Int) | 6 => v = .pointer (some ⟨b, off + kx * 2, none⟩) | 7 => v = .agg #[.float .f64 (xs kx), .float .f64 (ys kx)] | 8 => v = .float .f64 (dtK (nX xs ys n kx) (nY xs ys n kx) (xs kx) (ys kx)) | 9 => v = .agg #[.float .f64 (nX xs ys n kx), .float .f64 (nY xs ys n kx), .float .f64 (dtK (nX xs ys n kx) (nY xs ys n kx) (xs kx) (ys kx))] | 10 => v = .pointer (some ⟨w_1.heap.size, kx * 3, none⟩) | _ => False) (fun i => match i with  | _ => none) ?A_wf (by kernel_rfl) (by kernel_rfl) ?hA_wf ?ha_wf ?hq_wf [11] rfl ?ht_wf
      case hA_wf =>
        intro s
        simp only [putL, dstO, Act.put, List.getElem?_toArray, List.getElem?_cons_zero, List.getElem?_cons_succ, Option.bind_some, List.setIfInBounds_toArray, List.set_cons_zero, List.set_cons_succ, if_true]
        all_goals exact rfl
      case ha_wf =>
        intro i o ob hi ho hal
        rcases (show i = 0 ∨ i = 1 ∨ i = 2 ∨ i = 3 ∨ i = 4 ∨ i = 5 ∨ i = 6 ∨ i = 7 ∨ i = 8 ∨ i = 9 ∨ i = 10 by omega) with rfl | rfl | rfl | rfl | rfl | rfl | rfl | rfl | rfl | rfl | rfl
        · cases hal
        · cases hal
        · cases hal
        · cases hal
        · cases hal
        · cases hal
        · cases hal
        · cases hal
        · cases hal
        · cases hal
        · cases hal
      case hq_wf =>
        intro i o hi ho hal s hs W hb K hK
        have u0 := keep hb y0; have u1 := keep hb y1; have u2 := keep hb v0; have u3 := keep hb v1; have lu := World.block_lt_of_cell? _ _ u2; simp only at lu
        rcases (show i = 0 ∨ i = 1 ∨ i = 2 ∨ i = 3 ∨ i = 4 ∨ i = 5 ∨ i = 6 ∨ i = 7 ∨ i = 8 ∨ i = 9 ∨ i = 10 by omega) with rfl | rfl | rfl | rfl | rfl | rfl | rfl | rfl | rfl | rfl | rfl
        · cases ho
          simp only [Act.put, List.setIfInBounds_toArray, List.set_cons_zero, List.set_cons_succ] at hK
          clear hs
          go_simp
          all_goals (try go_wp2_with (first | (go_at_call 27; refine (vDot_d _ (by with_reducible assumption) (by with_reducible assumption) (by with_reducible assumption) (by with_reducible assumption) (by decide)).mono ?_; rintro e w' ⟨rfl, hb1⟩)))
          all_goals first | exact hK.out _ _ rfl (bl_refl _) | exact hK.out _ _ rfl (by assumption) | exact hK.out _ _ (by assumption) (by assumption)
        · cases ho
          simp only [Act.put, List.setIfInBounds_toArray, List.set_cons_zero, List.set_cons_succ] at hK
          clear hs
          go_simp
          all_goals (try go_wp2_with (first | (go_at_call 27; refine (vDot_d _ (by with_reducible assumption) (by with_reducible assumption) (by with_reducible assumption) (by with_reducible assumption) (by decide)).mono ?_; rintro e w' ⟨rfl, hb1⟩)))
          all_goals first | exact hK.out _ _ rfl (bl_refl _) | exact hK.out _ _ rfl (by assumption) | exact hK.out _ _ (by assumption) (by assumption)
        · cases ho
          simp only [Act.put, List.setIfInBounds_toArray, List.set_cons_zero, List.set_cons_succ] at hK
          clear hs
          go_simp
          all_goals (try go_wp2_with (first | (go_at_call 27; refine (vDot_d _ (by with_reducible assumption) (by with_reducible assumption) (by with_reducible assumption) (by with_reducible assumption) (by decide)).mono ?_; rintro e w' ⟨rfl, hb1⟩)))
          all_goals first | exact hK.out _ _ rfl (bl_refl _) | exact hK.out _ _ rfl (by assumption) | exact hK.out _ _ (by assumption) (by assumption)
        · cases ho
          simp only [Act.put, List.setIfInBounds_toArray, List.set_cons_zero, List.set_cons_succ] at hK
          clear hs
          go_simp
          all_goals (try go_wp2_with (first | (go_at_call 27; refine (vDot_d _ (by with_reducible assumption) (by with_reducible assumption) (by with_reducible assumption) (by with_reducible assumption) (by decide)).mono ?_; rintro e w' ⟨rfl, hb1⟩)))
          all_goals first | exact hK.out _ _ rfl (bl_refl _) | exact hK.out _ _ rfl (by assumption) | exact hK.out _ _ (by assumption) (by assumption)
        · cases ho
          simp only [Act.put, List.setIfInBounds_toArray, List.set_cons_zero, List.set_cons_succ] at hK
          clear hs
          go_simp
          all_goals (try go_wp2_with (first | (go_at_call 27; refine (vDot_d _ (by with_reducible assumption) (by with_reducible assumption) (by with_reducible assumption) (by with_reducible assumption) (by decide)).mono ?_; rintro e w' ⟨rfl, hb1⟩)))
          all_goals first | exact hK.out _ _ rfl (bl_refl _) | exact hK.out _ _ rfl (by assumption) | exact hK.out _ _ (by assumption) (by assumption)
        · cases ho
          simp only [Act.put, List.setIfInBounds_toArray, List.set_cons_zero, List.set_cons_succ] at hK
          clear hs
          go_simp
          all_goals (try go_wp2_with (first | (go_at_call 27; refine (vDot_d _ (by with_reducible assumption) (by with_reducible assumption) (by with_reducible assumption) (by with_reducible assumption) (by decide)).mono ?_; rintro e w' ⟨rfl, hb1⟩)))
          all_goals first | exact hK.out _ _ rfl (bl_refl _) | exact hK.out _ _ rfl (by assumption) | exact hK.out _ _ (by assumption) (by assumption)
        · cases ho
          have e4 : s 4 = _ := hs 4 (by decide) (by kernel_rfl)
          have e5 : s 5 = _ := hs 5 (by decide) (by kernel_rfl)
          simp only [e4, e5] at hK ⊢
          simp only [Act.put, List.setIfInBounds_toArray, List.set_cons_zero, List.set_cons_succ] at hK
          clear hs
          go_simp
          all_goals (try go_wp2_with (first | (go_at_call 27; refine (vDot_d _ (by with_reducible assumption) (by with_reducible assumption) (by with_reducible assumption) (by with_reducible assumption) (by decide)).mono ?_; rintro e w' ⟨rfl, hb1⟩)))
          all_goals first | exact hK.out _ _ rfl (bl_refl _) | exact hK.out _ _ rfl (by assumption) | exact hK.out _ _ (by assumption) (by assumption)
        · cases ho
          have e6 : s 6 = _ := hs 6 (by decide) (by kernel_rfl)
          simp only [e6] at hK ⊢
          simp only [Act.put, List.setIfInBounds_toArray, List.set_cons_zero, List.set_cons_succ] at hK
          clear hs
          go_simp
          all_goals (try go_wp2_with (first | (go_at_call 27; refine (vDot_d _ (by with_reducible assumption) (by with_reducible assumption) (by with_reducible assumption) (by with_reducible assumption) (by decide)).mono ?_; rintro e w' ⟨rfl, hb1⟩)))
          all_goals first | exact hK.out _ _ rfl (bl_refl _) | exact hK.out _ _ rfl (by assumption) | exact hK.out _ _ (by assumption) (by assumption)
        · cases ho
          have e3 : s 3 = _ := hs 3 (by decide) (by kernel_rfl)
          have e7 : s 7 = _ := hs 7 (by decide) (by kernel_rfl)
          simp only [e3, e7] at hK ⊢
          simp only [Act.put, List.setIfInBounds_toArray, List.set_cons_zero, List.set_cons_succ] at hK
          clear hs
          go_simp
          all_goals (try go_wp2_with (first | (go_at_call 27; refine (vDot_d _ (by with_reducible assumption) (by with_reducible assumption) (by with_reducible assumption) (by with_reducible assumption) (by decide)).mono ?_; rintro e w' ⟨rfl, hb1⟩)))
          all_goals first | exact hK.out _ _ rfl (bl_refl _) | exact hK.out _ _ rfl (by assumption) | exact hK.out _ _ (by assumption) (by assumption)
        · cases ho
          have e2 : s 2 = _ := hs 2 (by decide) (by kernel_rfl)
          have e8 : s 8 = _ := hs 8 (by decide) (by kernel_rfl)
          simp only [e2, e8] at hK ⊢
          simp only [Act.put, List.setIfInBounds_toArray, List.set_cons_zero, List.set_cons_succ] at hK
          clear hs
          go_simp
          all_goals (try go_wp2_with (first | (go_at_call 27; refine (vDot_d _ (by with_reducible assumption) (by with_reducible assumption) (by with_reducible assumption) (by with_reducible assumption) (by decide)).mono ?_; rintro e w' ⟨rfl, hb1⟩)))
          all_goals first | exact hK.out _ _ rfl (bl_refl _) | exact hK.out _ _ rfl (by assumption) | exact hK.out _ _ (by assumption) (by assumption)
        · cases ho
          have e0 : s 0 = _ := hs 0 (by decide) (by kernel_rfl)
          have e1 : s 1 = _ := hs 1 (by decide) (by kernel_rfl)
          simp only [e0, e1] at hK ⊢
          simp only [Act.put, List.setIfInBounds_toArray, List.set_cons_zero, List.set_cons_succ] at hK
          clear hs
          go_simp
          all_goals (try go_wp2_with (first | (go_at_call 27; refine (vDot_d _ (by with_reducible assumption) (by with_reducible assumption) (by with_reducible assumption) (by with_reducible assumption) (by decide)).mono ?_; rintro e w' ⟨rfl, hb1⟩)))
          all_goals first | exact hK.out _ _ rfl (bl_refl _) | exact hK.out _ _ rfl (by assumption) | exact hK.out _ _ (by assumption) (by assumption)
      case ht_wf =>
        intro s hs W hb hJ
        have e0 : s 0 = _ := hs 0 (by decide)
        have e1 : s 1 = _ := hs 1 (by decide)
        have e2 : s 2 = _ := hs 2 (by decide)
        have e3 : s 3 = _ := hs 3 (by decide)
        have e4 : s 4 = _ := hs 4 (by decide)
        have e5 : s 5 = _ := hs 5 (by decide)
        have e6 : s 6 = _ := hs 6 (by decide)
        have e7 : s 7 = _ := hs 7 (by decide)
        have e8 : s 8 = _ := hs 8 (by decide)
        have e9 : s 9 = _ := hs 9 (by decide)
        have e10 : s 10 = _ := hs 10 (by decide)
        simp only [e0, e1, e2, e3, e4, e5, e6, e7, e8, e9, e10]
        clear hs
        obtain ⟨c0, c1, c2⟩ := (hR.bel (bl_trans (bl_alloc (bl_refl wr) _ _) hb)) kx hlt; simp only [Nat.zero_add] at c0 c1 c2; have fQ : ∀ o, W.frozen? ⟨w_1.heap.size, o, none⟩ = false := fun o => ((bl_trans (bl_alloc hB _ _) hb).2 _).trans (fresh_frozen lr)
        refine tail_step rfl (fun K hK => ?_)
        go_simp
        refine hK.out _ _ ?_
        clear hK K
        refine tail_end ?_
        go_wp2
        refine ⟨⟨kx + 1, by omega, by go_num, ?_, ?_, ?_⟩, by simp [intOf]; omega⟩
        · exact bl_set (bl_set (bl_set (bl_trans (bl_alloc hB _ _) hb) lr) lr) lr
        · exact bl_set (bl_set (bl_set (bl_trans (bl_alloc hB1 _ _) hb) (Nat.le_refl _)) (Nat.le_refl _)) (Nat.le_refl _)
        · have := pl_set (p := sdP xs ys n kx) (hR.bel (bl_trans (bl_alloc (bl_refl wr) _ _) hb)) hlt
          exact this.eq fun i hi => by
            by_cases e : i = kx
            · subst e; rw [if_pos rfl, if_pos (by omega)]
            · rw [if_neg e]
              by_cases h : i < kx
              · rw [if_pos h, if_pos (by omega)]
              · rw [if_neg h, if_neg (by omega)]
    · have hkn : kx = n := by omega
      subst hkn
      go_wp2
      refine bodyPost_ret (v := .tuple #[.slice (some ⟨w_1.heap.size, 0, none⟩) kx kx, .int .i64 0]) (by simp [results, Try.results19, go_sem] <;> (first | exact ⟨⟨rfl, rfl⟩, rfl⟩ | exact ⟨rfl, rfl, rfl, rfl⟩ | exact ⟨rfl, rfl, rfl⟩ | exact ⟨rfl, rfl⟩ | rfl)) rfl ⟨_, rfl, lr, hR.eq (fun i hi => if_pos hi), hB⟩
theorem sides_bad (V : Value) (n : Nat) (xs ys : Nat → Nat) (w : World) (h : AnyS w V n xs ys) (hz : ¬ chkE xs ys n = 0) : Calls Try.prog 19 #[V] w fun e w' => e = .returned (.tuple #[.slice none 0 0, .int .i64 (chkE xs ys n)]) ∧ Bel w w' := by
  have NB := normals_no V n xs ys w h hz
  obtain ⟨a, cap, rfl, _⟩ := id h
  have hc' : ¬ (chkE xs ys n == 0) = true := by simpa using hz
  go_enter Try.func19, Try.ntmps19
  go_wp2_with (first | (go_at_call 23; refine NB.mono ?_; rintro e w_1 ⟨rfl, hb⟩))
  refine bodyPost_ret (v := .tuple #[.slice none 0 0, .int .i64 (chkE xs ys n)]) (by simp [results, Try.results19, go_sem] <;> (first | exact ⟨⟨rfl, rfl⟩, rfl⟩ | exact ⟨rfl, rfl, rfl, rfl⟩ | exact ⟨rfl, rfl, rfl⟩ | exact ⟨rfl, rfl⟩ | rfl)) rfl ⟨rfl, hb⟩

end Go.Proofs.Ytpedpgpgcmhnoaa
