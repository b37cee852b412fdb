/-
  What each function of package poly answers, and what the reference of its chapter answers: one contract a function, for every float: the answer stands in the relation of its formula to what was given; of the memory that was there nothing has turned.
-/
import Derived.Test.YtmgoancijepeoaaVec
import Derived.Test.YtmgoancijepeoaaDc
import Derived.Test.YtmgoancijepeoaaCk
import Derived.Test.YtmgoancijepeoaaAppr
import Derived.Below
import Derived.WalkKit
import Derived.WalkLawsBesides
import Derived.WalkSpells
import Derived.ProofKit
import Derived.OpenShut
import Derived.Deep.RegionHeld3
namespace Go.Proofs.Ytmgoancijepeoaa
open Go.ChangeShapes Go.WideShapes Go.ChangeAt Go.RowKit
set_option linter.unusedVariables false
set_option linter.unusedSimpArgs false


theorem pg_first (p : Pn) (xs ys : Nat → Nat) (n : Nat) : (if pE p = 0 then chkE xs ys n else pE p) = pgE p xs ys n := by
  unfold pgE pE
  cases pnB p <;> simp
set_option maxRecDepth 100000 in
set_option maxHeartbeats 1000000 in
theorem rpolygon_d (nx ny fd : Nat) (V : Value) (n : Nat) (xs ys : Nat → Nat) (w : World) (o1 : okK .f64 nx) (o2 : okK .f64 ny) (o3 : okK .f64 fd) (h : AnyS w V n xs ys) : Calls Try.prog 21 #[.agg #[.float .f64 nx, .float .f64 ny, .float .f64 fd], V] w fun e w' => ∃ v, e = .returned (.tuple #[v, .int .i64 (pgE (nx, ny, fd) xs ys n)]) ∧ RowS w.heap.size w' v (pgL (nx, ny, fd) xs ys n) ∧ Bel w w' := by
  have z0_0 : (w.alloc (.cells #[.float .f64 nx, .float .f64 ny, .float .f64 fd] 26)).cell? ⟨w.heap.size, 0, none⟩ = some (.float .f64 nx) := by rw [World.cell?_alloc_new]; rfl
  have z0_1 : (w.alloc (.cells #[.float .f64 nx, .float .f64 ny, .float .f64 fd] 26)).cell? ⟨w.heap.size, 1, none⟩ = some (.float .f64 ny) := by rw [World.cell?_alloc_new]; rfl
  have z0_2 : (w.alloc (.cells #[.float .f64 nx, .float .f64 ny, .float .f64 fd] 26)).cell? ⟨w.heap.size, 2, none⟩ = some (.float .f64 fd) := by rw [World.cell?_alloc_new]; rfl
  have B0 : Bel w (w.alloc (.cells #[.float .f64 nx, .float .f64 ny, .float .f64 fd] 26)) := bl_alloc (bl_refl w) _ _
  by_cases h0 : pgE (nx, ny, fd) xs ys n = 0
  · obtain ⟨hP, hc⟩ : pnB (nx, ny, fd) = true ∧ chkE xs ys n = 0 := by
      unfold pgE at h0
      split at h0
      · rename_i hp; exact ⟨hp, h0⟩
      · cases h0
    obtain ⟨a, cap, rfl, a2, a3, a4, a5, a6⟩ := id h
    obtain ⟨g, h3, h64, _⟩ := chk_ok a5 hc
    rcases a6 with h0' | ⟨a0, b, off, rfl, sa⟩
    · omega
    have e2 : pgL (nx, ny, fd) xs ys n = leftL (nx, ny, fd) (lst xs ys n) := by unfold pgL; rw [if_pos h0]
    rw [h0, e2]
    have hpB := pn_bd (p := (nx, ny, fd)) o1 o2 o3 hP
    clear hc hP
    go_enter Try.func21, Try.ntmps21
    go_wp2_with (first | (go_at_call 17; refine (rcchk_any nx ny fd _ o1 o2 o3).mono ?_; rintro e w_1 ⟨rfl, hb⟩; replace z0_0 := keep hb z0_0; replace z0_1 := keep hb z0_1; replace z0_2 := keep hb z0_2; have B1 := bl_trans B0 hb; clear hb) | (go_at_call 56; refine (rchk_any _ n xs ys _ (h.bel B1)).mono ?_; rintro e w_2 ⟨rfl, hb⟩; replace z0_0 := keep hb z0_0; replace z0_1 := keep hb z0_1; replace z0_2 := keep hb z0_2; have B2 := bl_trans B1 hb; clear hb; replace z0_0 := up_alloc (o := .cells #[.int .i64 (pE (nx, ny, fd)), .int .i64 (chkE xs ys n)] 28) z0_0; replace z0_1 := up_alloc (o := .cells #[.int .i64 (pE (nx, ny, fd)), .int .i64 (chkE xs ys n)] 28) z0_1; replace z0_2 := up_alloc (o := .cells #[.int .i64 (pE (nx, ny, fd)), .int .i64 (chkE xs ys n)] 28) z0_2; have B3 : Bel w (w_2.alloc (.cells #[.int .i64 (pE (nx, ny, fd)), .int .i64 (chkE xs ys n)] 28)) := bl_alloc B2 _ _; have F2 := first2 w_2.heap.size (pE (nx, ny, fd)) (chkE xs ys n) (w_2.alloc (.cells #[.int .i64 (pE (nx, ny, fd)), .int .i64 (chkE xs ys n)] 28)) (by rw [World.cell?_alloc_new]; rfl) (by rw [World.cell?_alloc_new]; rfl)) | (go_at_call 43; refine F2.mono ?_; rintro e w_3 ⟨rfl, hw3⟩; rw [hw3]; rw [pg_first, h0]) | (go_at_call 57; refine (rleft_d b off n cap (lst xs ys n) 40 nx ny fd _ (lst_len _ _ _) (sl_lst (sa.bel B3)) a0 (by omega) a2 hpB (lst_bd g) (by decide)).mono ?_; rintro e w_4 ⟨v, rfl, hN, hb⟩))
    refine bodyPost_ret (v := .tuple #[v, .int .i64 0]) (by simp [results, Try.results21, go_sem] <;> (first | exact ⟨⟨rfl, rfl⟩, rfl⟩ | exact ⟨rfl, rfl, rfl, rfl⟩ | exact ⟨rfl, rfl, rfl⟩ | exact ⟨rfl, rfl⟩ | rfl)) rfl ⟨_, rfl, hN.low B3.size, bl_trans B3 hb⟩
  · have e2 : pgL (nx, ny, fd) xs ys n = [] := by unfold pgL; rw [if_neg h0]
    have h0' : ¬ (pgE (nx, ny, fd) xs ys n == 0) = true := by simpa using h0
    rw [e2]
    obtain ⟨a, cap, rfl, _⟩ := id h
    go_enter Try.func21, Try.ntmps21
    go_wp2_with (first | (go_at_call 17; refine (rcchk_any nx ny fd _ o1 o2 o3).mono ?_; rintro e w_1 ⟨rfl, hb⟩; replace z0_0 := keep hb z0_0; replace z0_1 := keep hb z0_1; replace z0_2 := keep hb z0_2; have B1 := bl_trans B0 hb; clear hb) | (go_at_call 56; refine (rchk_any _ n xs ys _ (h.bel B1)).mono ?_; rintro e w_2 ⟨rfl, hb⟩; replace z0_0 := keep hb z0_0; replace z0_1 := keep hb z0_1; replace z0_2 := keep hb z0_2; have B2 := bl_trans B1 hb; clear hb; replace z0_0 := up_alloc (o := .cells #[.int .i64 (pE (nx, ny, fd)), .int .i64 (chkE xs ys n)] 28) z0_0; replace z0_1 := up_alloc (o := .cells #[.int .i64 (pE (nx, ny, fd)), .int .i64 (chkE xs ys n)] 28) z0_1; replace z0_2 := up_alloc (o := .cells #[.int .i64 (pE (nx, ny, fd)), .int .i64 (chkE xs ys n)] 28) z0_2; have B3 : Bel w (w_2.alloc (.cells #[.int .i64 (pE (nx, ny, fd)), .int .i64 (chkE xs ys n)] 28)) := bl_alloc B2 _ _; have F2 := first2 w_2.heap.size (pE (nx, ny, fd)) (chkE xs ys n) (w_2.alloc (.cells #[.int .i64 (pE (nx, ny, fd)), .int .i64 (chkE xs ys n)] 28)) (by rw [World.cell?_alloc_new]; rfl) (by rw [World.cell?_alloc_new]; rfl)) | (go_at_call 43; refine F2.mono ?_; rintro e w_3 ⟨rfl, hw3⟩; rw [hw3]; rw [pg_first]))
    refine bodyPost_ret (v := .tuple #[.slice none 0 0, .int .i64 (pgE (nx, ny, fd) xs ys n)]) (by simp [results, Try.results21, go_sem] <;> (first | exact ⟨⟨rfl, rfl⟩, rfl⟩ | exact ⟨rfl, rfl, rfl, rfl⟩ | exact ⟨rfl, rfl, rfl⟩ | exact ⟨rfl, rfl⟩ | rfl)) rfl ⟨_, rfl, ⟨none, 0, rfl, Nat.le_refl _, .inl rfl⟩, B3⟩
theorem info_plane : (Try.prog.info? 26).map (fun i => (i.zero, i.size, i.bytes)) = some (some (.agg #[.float .f64 0, .float .f64 0, .float .f64 0]), 3, 24) := by kernel_rfl
/-- planes as cells -/
def plR (P : Nat → Pn) : Nat → List Value
  | 0 => []
  | k + 1 => plR P k ++ [.float .f64 (P k).1, .float .f64 (P k).2.1, .float .f64 (P k).2.2]
theorem plR_len (P : Nat → Pn) : ∀ k, (plR P k).length = k * 3 := by
  intro k
  induction k with
  | zero => rfl
  | succ k ih => simp only [plR, List.length_append, ih, List.length_cons, List.length_nil]; omega
theorem plR_get (P : Nat → Pn) : ∀ k i, i < k → (plR P k)[i * 3]? = some (.float .f64 (P i).1) ∧ (plR P k)[i * 3 + 1]? = some (.float .f64 (P i).2.1) ∧ (plR P k)[i * 3 + 2]? = some (.float .f64 (P i).2.2) := by
  intro k
  induction k with
  | zero => intro i hi; omega
  | succ k ih =>
    intro i hi
    have hl := plR_len P k
    simp only [plR]
    by_cases e : i = k
    · subst e
      rw [List.getElem?_append_right (by omega), List.getElem?_append_right (by omega), List.getElem?_append_right (by omega), hl]
      simp
    · obtain ⟨h1, h2, h3⟩ := ih i (by omega)
      rw [List.getElem?_append_left (by omega), List.getElem?_append_left (by omega), List.getElem?_append_left (by omega)]
      exact ⟨h1, h2, h3⟩
theorem rw_sp {w : World} {g n : Nat} {P : Nat → Pn} (h : Rw w g 0 (plR P n)) : Sp w g 0 n P := fun i hi => by
  obtain ⟨h1, h2, h3⟩ := plR_get P n i hi
  exact ⟨h _ _ h1, h _ _ h2, h _ _ h3⟩
set_option maxRecDepth 100000 in
set_option maxHeartbeats 2000000 in
theorem rsides_ok (b off n cap : Nat) (xs ys : Nat → Nat) (w : World) (hs : Sl w b off n xs ys) (ok : Oks xs ys n) (hp : 0 < n) (hn : n ≤ maxLen) (hcap : n ≤ cap) (hbyte : n * 16 ≤ 140737488351232) (hz : chkE xs ys n = 0) : Calls Try.prog 23 #[.slice (some ⟨b, off, none⟩) n cap] w fun e w' => ∃ r c, e = .returned (.tuple #[.slice (some ⟨r, 0, none⟩) n c, .int .i64 0]) ∧ n ≤ c ∧ w.heap.size ≤ r ∧ Sp w' r 0 n (sdP xs ys n) ∧ Bel w w' := by
  obtain ⟨g, h3, h64, hout⟩ := chk_ok ok hz
  have NO := rnormals_ok b off n cap xs ys w hs ok hp hn hcap hbyte hz
  have rowS : ∀ kx, plR (sdP xs ys n) (kx + 1) = plR (sdP xs ys n) kx ++ [.float .f64 (nX xs ys n kx), .float .f64 (nY xs ys n kx), .float .f64 (dtK (nX xs ys n kx) (nY xs ys n kx) (xs kx) (ys kx))] := fun kx => rfl
  go_enter Try.func23, Try.ntmps23
  go_wp2_with (first | (go_at_call 60; refine NO.mono ?_; rintro e w_1 ⟨vN, rfl, hON, Bw⟩; obtain ⟨gN, cN, rfl, hgN, hcN, _, hSN, _⟩ := hON.get (by rw [lst_len]; exact hp); rw [lst_len] at hcN hSN; rw [lst_len]))
  have hSN' : Sl w_1 gN 0 n (nX xs ys n) (nY xs ys n) := hSN.eq (lst_x _ _ _) (lst_y _ _ _)
  clear hSN NO
  go_loopw [7, 6] (fun i' u wr => ∃ kx : Nat, kx ≤ n ∧ i' = .int .i64 kx ∧ Bel w_1 wr ∧ OwnR 3 w_1.heap.size wr u kx (plR (sdP xs ys n) kx)) (fun i' _ _ => n - (intOf i').toNat)
  case atStart => exact ⟨0, by omega, rfl, bl_refl _, OwnR.nil 3 _ _⟩
  case round =>
    obtain ⟨kx, hk, rfl, hB, hO⟩ := hrel
    by_cases hlt : kx < n
    · have k1 : (kx : Int) < (n : Int) := by omega
      obtain ⟨wb1, wb2⟩ := wX_bd g hlt
      obtain ⟨_, n1, n2⟩ := n_bd wb1 wb2 (out_len (hout kx hlt))
      have n1 : Bd 80 (nX xs ys n kx) := n1
      have n2 : Bd 80 (nY xs ys n kx) := n2
      obtain ⟨g1, g2⟩ := g kx hlt
      obtain ⟨t0, t1⟩ := (hSN'.bel hB) kx hlt
      simp only [Nat.zero_add] at t0 t1
      obtain ⟨x0, x1⟩ := (hs.bel (bl_trans Bw hB)) kx hlt
      go_wp2
      refine wp_region_monoT 16 (fun i W v => match i with | 0 => v = u6 | 1 => v = .slice (some ⟨gN, 0, none⟩) n cN | 2 => v = .int .i64 (kx : Int) | 3 => v = .pointer (some ⟨gN, kx * 2, none⟩) | 4 => v = .agg #[.float .f64 (nX xs ys n kx), .float .f64 (nY xs ys n kx)] | 5 => v = .slice (some ⟨gN, 0, none⟩) n cN | 6 => v = .int .i64 (kx : Int) | 7 => v = .pointer (some ⟨gN, kx * 2, none⟩) | 8 => v = .agg #[.float .f64 (nX xs ys n kx), .float .f64 (nY xs ys n kx)] | 9 => v = .slice (some ⟨b, off, none⟩) n cap | 10 => v = .int .i64 (kx : Int) | 11 => v = .pointer (some ⟨b, off + kx * 2, none⟩) | 12 => v = .agg #[.float .f64 (xs kx), .float .f64 (ys kx)] | 13 => v = .float .f64 (dtK (nX xs ys n kx) (nY xs ys n kx) (xs kx) (ys kx)) | 14 => v = .agg #[.float .f64 (nX xs ys n kx), .float .f64 (nY xs ys n kx), .float .f64 (dtK (nX xs ys n kx) (nY xs ys n kx) (xs kx) (ys kx))] | 15 => ∃ q, v = .slice (some ⟨q, 0, none⟩) 1 1 ∧ Rw W q 0 [.float .f64 (nX xs ys n kx), .float .f64 (nY xs ys n kx), .float .f64 (dtK (nX xs ys n kx) (nY xs ys n kx) (xs kx) (ys kx))] | _ => False) ?A_wt (by kernel_rfl) (by kernel_rfl) ?hA_wt ?hmo_wt ?hq_wt [16, 17] rfl ?ht_wt
      case hA_wt =>
        intro s
        simp only [putL, dstO, Act.put, List.getElem?_toArray, List.getElem?_cons_zero, List.getElem?_cons_succ, Option.bind_some, List.setIfInBounds_toArray, List.set_cons_zero, List.set_cons_succ, if_true]
        all_goals exact rfl
      case hmo_wt =>
        intro i W W' v hi hb h
        rcases (show i = 0 ∨ i = 1 ∨ i = 2 ∨ i = 3 ∨ i = 4 ∨ i = 5 ∨ i = 6 ∨ i = 7 ∨ i = 8 ∨ i = 9 ∨ i = 10 ∨ i = 11 ∨ i = 12 ∨ i = 13 ∨ i = 14 ∨ i = 15 by omega) with rfl | rfl | rfl | rfl | rfl | rfl | rfl | rfl | rfl | rfl | rfl | rfl | rfl | rfl | rfl | rfl
        all_goals first | exact h | (obtain ⟨q, e, hR⟩ := h; exact ⟨q, e, hR.bel hb⟩)
      case hq_wt =>
        intro i o hi ho s W hs hb K hK
        have u0 := keep hb t0; have u1 := keep hb t1; have u2 := keep hb x0; have u3 := keep hb x1; have lu := World.block_lt_of_cell? _ _ u0; have lv := World.block_lt_of_cell? _ _ u2; simp only at lu lv
        rcases (show i = 0 ∨ i = 1 ∨ i = 2 ∨ i = 3 ∨ i = 4 ∨ i = 5 ∨ i = 6 ∨ i = 7 ∨ i = 8 ∨ i = 9 ∨ i = 10 ∨ i = 11 ∨ i = 12 ∨ i = 13 ∨ i = 14 ∨ i = 15 by omega) with rfl | rfl | rfl | rfl | rfl | rfl | rfl | rfl | rfl | rfl | rfl | rfl | rfl | rfl | rfl | rfl
        · cases ho
          simp only [Act.put, List.setIfInBounds_toArray, List.set_cons_zero, List.set_cons_succ] at hK
          clear hs
          go_simp
          all_goals (try go_wp2_with (first | (go_at_call 61; refine (rDot_d _ (by with_reducible assumption) (by with_reducible assumption) (by with_reducible assumption) (by with_reducible assumption) (by decide)).mono ?_; rintro e w' ⟨rfl, hb1⟩)))
          all_goals first | exact hK.out _ _ ⟨_, rfl, fun j u hj => by rw [Nat.zero_add, World.cell?_alloc_new]; simpa using hj⟩ (bl_alloc (bl_refl _) _ _) | exact hK.out _ _ rfl (bl_refl _) | exact hK.out _ _ rfl (by assumption) | exact hK.out _ _ (by assumption) (by assumption)
        · cases ho
          simp only [Act.put, List.setIfInBounds_toArray, List.set_cons_zero, List.set_cons_succ] at hK
          clear hs
          go_simp
          all_goals (try go_wp2_with (first | (go_at_call 61; refine (rDot_d _ (by with_reducible assumption) (by with_reducible assumption) (by with_reducible assumption) (by with_reducible assumption) (by decide)).mono ?_; rintro e w' ⟨rfl, hb1⟩)))
          all_goals first | exact hK.out _ _ ⟨_, rfl, fun j u hj => by rw [Nat.zero_add, World.cell?_alloc_new]; simpa using hj⟩ (bl_alloc (bl_refl _) _ _) | exact hK.out _ _ rfl (bl_refl _) | exact hK.out _ _ rfl (by assumption) | exact hK.out _ _ (by assumption) (by assumption)
        · cases ho
          simp only [Act.put, List.setIfInBounds_toArray, List.set_cons_zero, List.set_cons_succ] at hK
          clear hs
          go_simp
          all_goals (try go_wp2_with (first | (go_at_call 61; refine (rDot_d _ (by with_reducible assumption) (by with_reducible assumption) (by with_reducible assumption) (by with_reducible assumption) (by decide)).mono ?_; rintro e w' ⟨rfl, hb1⟩)))
          all_goals first | exact hK.out _ _ ⟨_, rfl, fun j u hj => by rw [Nat.zero_add, World.cell?_alloc_new]; simpa using hj⟩ (bl_alloc (bl_refl _) _ _) | exact hK.out _ _ rfl (bl_refl _) | exact hK.out _ _ rfl (by assumption) | exact hK.out _ _ (by assumption) (by assumption)
        · cases ho
          have e1 : s 1 = _ := hs 1 (by decide) (by kernel_rfl)
          have e2 : s 2 = _ := hs 2 (by decide) (by kernel_rfl)
          simp only [e1, e2] at hK ⊢
          simp only [Act.put, List.setIfInBounds_toArray, List.set_cons_zero, List.set_cons_succ] at hK
          clear hs
          go_simp
          all_goals (try go_wp2_with (first | (go_at_call 61; refine (rDot_d _ (by with_reducible assumption) (by with_reducible assumption) (by with_reducible assumption) (by with_reducible assumption) (by decide)).mono ?_; rintro e w' ⟨rfl, hb1⟩)))
          all_goals first | exact hK.out _ _ ⟨_, rfl, fun j u hj => by rw [Nat.zero_add, World.cell?_alloc_new]; simpa using hj⟩ (bl_alloc (bl_refl _) _ _) | exact hK.out _ _ rfl (bl_refl _) | exact hK.out _ _ rfl (by assumption) | exact hK.out _ _ (by assumption) (by assumption)
        · cases ho
          have e3 : s 3 = _ := hs 3 (by decide) (by kernel_rfl)
          simp only [e3] at hK ⊢
          simp only [Act.put, List.setIfInBounds_toArray, List.set_cons_zero, List.set_cons_succ] at hK
          clear hs
          go_simp
          all_goals (try go_wp2_with (first | (go_at_call 61; refine (rDot_d _ (by with_reducible assumption) (by with_reducible assumption) (by with_reducible assumption) (by with_reducible assumption) (by decide)).mono ?_; rintro e w' ⟨rfl, hb1⟩)))
          all_goals first | exact hK.out _ _ ⟨_, rfl, fun j u hj => by rw [Nat.zero_add, World.cell?_alloc_new]; simpa using hj⟩ (bl_alloc (bl_refl _) _ _) | exact hK.out _ _ rfl (bl_refl _) | exact hK.out _ _ rfl (by assumption) | exact hK.out _ _ (by assumption) (by assumption)
        · cases ho
          simp only [Act.put, List.setIfInBounds_toArray, List.set_cons_zero, List.set_cons_succ] at hK
          clear hs
          go_simp
          all_goals (try go_wp2_with (first | (go_at_call 61; refine (rDot_d _ (by with_reducible assumption) (by with_reducible assumption) (by with_reducible assumption) (by with_reducible assumption) (by decide)).mono ?_; rintro e w' ⟨rfl, hb1⟩)))
          all_goals first | exact hK.out _ _ ⟨_, rfl, fun j u hj => by rw [Nat.zero_add, World.cell?_alloc_new]; simpa using hj⟩ (bl_alloc (bl_refl _) _ _) | exact hK.out _ _ rfl (bl_refl _) | exact hK.out _ _ rfl (by assumption) | exact hK.out _ _ (by assumption) (by assumption)
        · cases ho
          simp only [Act.put, List.setIfInBounds_toArray, List.set_cons_zero, List.set_cons_succ] at hK
          clear hs
          go_simp
          all_goals (try go_wp2_with (first | (go_at_call 61; refine (rDot_d _ (by with_reducible assumption) (by with_reducible assumption) (by with_reducible assumption) (by with_reducible assumption) (by decide)).mono ?_; rintro e w' ⟨rfl, hb1⟩)))
          all_goals first | exact hK.out _ _ ⟨_, rfl, fun j u hj => by rw [Nat.zero_add, World.cell?_alloc_new]; simpa using hj⟩ (bl_alloc (bl_refl _) _ _) | exact hK.out _ _ rfl (bl_refl _) | exact hK.out _ _ rfl (by assumption) | exact hK.out _ _ (by assumption) (by assumption)
        · cases ho
          have e5 : s 5 = _ := hs 5 (by decide) (by kernel_rfl)
          have e6 : s 6 = _ := hs 6 (by decide) (by kernel_rfl)
          simp only [e5, e6] at hK ⊢
          simp only [Act.put, List.setIfInBounds_toArray, List.set_cons_zero, List.set_cons_succ] at hK
          clear hs
          go_simp
          all_goals (try go_wp2_with (first | (go_at_call 61; refine (rDot_d _ (by with_reducible assumption) (by with_reducible assumption) (by with_reducible assumption) (by with_reducible assumption) (by decide)).mono ?_; rintro e w' ⟨rfl, hb1⟩)))
          all_goals first | exact hK.out _ _ ⟨_, rfl, fun j u hj => by rw [Nat.zero_add, World.cell?_alloc_new]; simpa using hj⟩ (bl_alloc (bl_refl _) _ _) | exact hK.out _ _ rfl (bl_refl _) | exact hK.out _ _ rfl (by assumption) | exact hK.out _ _ (by assumption) (by assumption)
        · cases ho
          have e7 : s 7 = _ := hs 7 (by decide) (by kernel_rfl)
          simp only [e7] at hK ⊢
          simp only [Act.put, List.setIfInBounds_toArray, List.set_cons_zero, List.set_cons_succ] at hK
          clear hs
          go_simp
          all_goals (try go_wp2_with (first | (go_at_call 61; refine (rDot_d _ (by with_reducible assumption) (by with_reducible assumption) (by with_reducible assumption) (by with_reducible assumption) (by decide)).mono ?_; rintro e w' ⟨rfl, hb1⟩)))
          all_goals first | exact hK.out _ _ ⟨_, rfl, fun j u hj => by rw [Nat.zero_add, World.cell?_alloc_new]; simpa using hj⟩ (bl_alloc (bl_refl _) _ _) | exact hK.out _ _ rfl (bl_refl _) | exact hK.out _ _ rfl (by assumption) | exact hK.out _ _ (by assumption) (by assumption)
        · cases ho
          simp only [Act.put, List.setIfInBounds_toArray, List.set_cons_zero, List.set_cons_succ] at hK
          clear hs
          go_simp
          all_goals (try go_wp2_with (first | (go_at_call 61; refine (rDot_d _ (by with_reducible assumption) (by with_reducible assumption) (by with_reducible assumption) (by with_reducible assumption) (by decide)).mono ?_; rintro e w' ⟨rfl, hb1⟩)))
          all_goals first | exact hK.out _ _ ⟨_, rfl, fun j u hj => by rw [Nat.zero_add, World.cell?_alloc_new]; simpa using hj⟩ (bl_alloc (bl_refl _) _ _) | exact hK.out _ _ rfl (bl_refl _) | exact hK.out _ _ rfl (by assumption) | exact hK.out _ _ (by assumption) (by assumption)
        · cases ho
          simp only [Act.put, List.setIfInBounds_toArray, List.set_cons_zero, List.set_cons_succ] at hK
          clear hs
          go_simp
          all_goals (try go_wp2_with (first | (go_at_call 61; refine (rDot_d _ (by with_reducible assumption) (by with_reducible assumption) (by with_reducible assumption) (by with_reducible assumption) (by decide)).mono ?_; rintro e w' ⟨rfl, hb1⟩)))
          all_goals first | exact hK.out _ _ ⟨_, rfl, fun j u hj => by rw [Nat.zero_add, World.cell?_alloc_new]; simpa using hj⟩ (bl_alloc (bl_refl _) _ _) | exact hK.out _ _ rfl (bl_refl _) | exact hK.out _ _ rfl (by assumption) | exact hK.out _ _ (by assumption) (by assumption)
        · cases ho
          have e9 : s 9 = _ := hs 9 (by decide) (by kernel_rfl)
          have e10 : s 10 = _ := hs 10 (by decide) (by kernel_rfl)
          simp only [e9, e10] at hK ⊢
          simp only [Act.put, List.setIfInBounds_toArray, List.set_cons_zero, List.set_cons_succ] at hK
          clear hs
          go_simp
          all_goals (try go_wp2_with (first | (go_at_call 61; refine (rDot_d _ (by with_reducible assumption) (by with_reducible assumption) (by with_reducible assumption) (by with_reducible assumption) (by decide)).mono ?_; rintro e w' ⟨rfl, hb1⟩)))
          all_goals first | exact hK.out _ _ ⟨_, rfl, fun j u hj => by rw [Nat.zero_add, World.cell?_alloc_new]; simpa using hj⟩ (bl_alloc (bl_refl _) _ _) | exact hK.out _ _ rfl (bl_refl _) | exact hK.out _ _ rfl (by assumption) | exact hK.out _ _ (by assumption) (by assumption)
        · cases ho
          have e11 : s 11 = _ := hs 11 (by decide) (by kernel_rfl)
          simp only [e11] at hK ⊢
          simp only [Act.put, List.setIfInBounds_toArray, List.set_cons_zero, List.set_cons_succ] at hK
          clear hs
          go_simp
          all_goals (try go_wp2_with (first | (go_at_call 61; refine (rDot_d _ (by with_reducible assumption) (by with_reducible assumption) (by with_reducible assumption) (by with_reducible assumption) (by decide)).mono ?_; rintro e w' ⟨rfl, hb1⟩)))
          all_goals first | exact hK.out _ _ ⟨_, rfl, fun j u hj => by rw [Nat.zero_add, World.cell?_alloc_new]; simpa using hj⟩ (bl_alloc (bl_refl _) _ _) | exact hK.out _ _ rfl (bl_refl _) | exact hK.out _ _ rfl (by assumption) | exact hK.out _ _ (by assumption) (by assumption)
        · cases ho
          have e8 : s 8 = _ := hs 8 (by decide) (by kernel_rfl)
          have e12 : s 12 = _ := hs 12 (by decide) (by kernel_rfl)
          simp only [e8, e12] at hK ⊢
          simp only [Act.put, List.setIfInBounds_toArray, List.set_cons_zero, List.set_cons_succ] at hK
          clear hs
          go_simp
          all_goals (try go_wp2_with (first | (go_at_call 61; refine (rDot_d _ (by with_reducible assumption) (by with_reducible assumption) (by with_reducible assumption) (by with_reducible assumption) (by decide)).mono ?_; rintro e w' ⟨rfl, hb1⟩)))
          all_goals first | exact hK.out _ _ ⟨_, rfl, fun j u hj => by rw [Nat.zero_add, World.cell?_alloc_new]; simpa using hj⟩ (bl_alloc (bl_refl _) _ _) | exact hK.out _ _ rfl (bl_refl _) | exact hK.out _ _ rfl (by assumption) | exact hK.out _ _ (by assumption) (by assumption)
        · cases ho
          have e4 : s 4 = _ := hs 4 (by decide) (by kernel_rfl)
          have e13 : s 13 = _ := hs 13 (by decide) (by kernel_rfl)
          simp only [e4, e13] at hK ⊢
          simp only [Act.put, List.setIfInBounds_toArray, List.set_cons_zero, List.set_cons_succ] at hK
          clear hs
          go_simp
          all_goals (try go_wp2_with (first | (go_at_call 61; refine (rDot_d _ (by with_reducible assumption) (by with_reducible assumption) (by with_reducible assumption) (by with_reducible assumption) (by decide)).mono ?_; rintro e w' ⟨rfl, hb1⟩)))
          all_goals first | exact hK.out _ _ ⟨_, rfl, fun j u hj => by rw [Nat.zero_add, World.cell?_alloc_new]; simpa using hj⟩ (bl_alloc (bl_refl _) _ _) | exact hK.out _ _ rfl (bl_refl _) | exact hK.out _ _ rfl (by assumption) | exact hK.out _ _ (by assumption) (by assumption)
        · cases ho
          have e14 : s 14 = _ := hs 14 (by decide) (by kernel_rfl)
          simp only [e14] at hK ⊢
          simp only [Act.put, List.setIfInBounds_toArray, List.set_cons_zero, List.set_cons_succ] at hK
          clear hs
          go_simp
          all_goals (try go_wp2_with (first | (go_at_call 61; refine (rDot_d _ (by with_reducible assumption) (by with_reducible assumption) (by with_reducible assumption) (by with_reducible assumption) (by decide)).mono ?_; rintro e w' ⟨rfl, hb1⟩)))
          all_goals first | exact hK.out _ _ ⟨_, rfl, fun j u hj => by rw [Nat.zero_add, World.cell?_alloc_new]; simpa using hj⟩ (bl_alloc (bl_refl _) _ _) | exact hK.out _ _ rfl (bl_refl _) | exact hK.out _ _ rfl (by assumption) | exact hK.out _ _ (by assumption) (by assumption)
      case ht_wt =>
        intro s W hs hb
        have e0 : s 0 = _ := hs 0 (by decide)
        have e1 : s 1 = _ := hs 1 (by decide)
        have e2 : s 2 = _ := hs 2 (by decide)
        have e3 : s 3 = _ := hs 3 (by decide)
        have e4 : s 4 = _ := hs 4 (by decide)
        have e5 : s 5 = _ := hs 5 (by decide)
        have e6 : s 6 = _ := hs 6 (by decide)
        have e7 : s 7 = _ := hs 7 (by decide)
        have e8 : s 8 = _ := hs 8 (by decide)
        have e9 : s 9 = _ := hs 9 (by decide)
        have e10 : s 10 = _ := hs 10 (by decide)
        have e11 : s 11 = _ := hs 11 (by decide)
        have e12 : s 12 = _ := hs 12 (by decide)
        have e13 : s 13 = _ := hs 13 (by decide)
        have e14 : s 14 = _ := hs 14 (by decide)
        obtain ⟨q15, e15, hR15⟩ := hs 15 (by decide)
        simp only [e0, e1, e2, e3, e4, e5, e6, e7, e8, e9, e10, e11, e12, e13, e14, e15]
        clear hs e0 e1 e2 e3 e4 e5 e6 e7 e8 e9 e10 e11 e12 e13 e14 e15
        obtain ⟨v2, w2, hrun, hO2, hv2, hB2⟩ := run_appR (P := Try.prog) (sz := 3) (by_ := 24) (R := plR (sdP xs ys n) kx) (N := [.float .f64 (nX xs ys n kx), .float .f64 (nY xs ys n kx), .float .f64 (dtK (nX xs ys n kx) (nY xs ys n kx) (xs kx) (ys kx))]) 43 43 26 Try.underlying43 info_plane rfl q15 0 1 1 (hO.bel hb) rfl hR15 (by intro u hu; simp at hu; rcases hu with rfl | rfl | rfl <;> rfl) (by decide) (Nat.le_trans hB.size hb.size) (by unfold maxLen; omega) (by omega)
        refine tail_run rfl rfl (exec_app rfl rfl rfl hrun) ?_
        refine tail_step rfl (fun K hK => ?_)
        go_simp
        refine hK.out _ _ ?_
        clear hK K
        refine tail_end ?_
        have B9 := hB2 w_1 (bl_trans hB hb) (Nat.le_refl _)
        go_wp2
        first
        | exact ⟨⟨kx + 1, by omega, by go_num, B9, hO2⟩, by simp [intOf]; omega⟩
        | (go_roundw; case rel => exact ⟨kx + 1, by omega, by go_num, B9, hO2⟩; case measure => simp [intOf]; omega)
    · have hkn : kx = n := by omega
      subst hkn
      have zz := Bw.size
      rcases hO.2 with ⟨_, h0⟩ | ⟨g9, c9, rfl, q1, q2, q3, q4, _, _⟩
      · omega
      go_wp2
      refine bodyPost_ret (v := .tuple #[.slice (some ⟨g9, 0, none⟩) kx c9, .int .i64 0]) (by simp [results, Try.results23, go_sem] <;> (first | exact ⟨⟨rfl, rfl⟩, rfl⟩ | exact ⟨rfl, rfl, rfl, rfl⟩ | exact ⟨rfl, rfl, rfl⟩ | exact ⟨rfl, rfl⟩ | rfl)) rfl ⟨_, _, rfl, q2, by omega, rw_sp q4, bl_trans Bw hB⟩
theorem rsides_bad (V : Value) (n : Nat) (xs ys : Nat → Nat) (w : World) (h : AnyS w V n xs ys) (hz : ¬ chkE xs ys n = 0) : Calls Try.prog 23 #[V] w fun e w' => e = .returned (.tuple #[.slice none 0 0, .int .i64 (chkE xs ys n)]) ∧ Bel w w' := by
  have NB := rnormals_no V n xs ys w h hz
  obtain ⟨a, cap, rfl, _⟩ := id h
  have hc' : ¬ (chkE xs ys n == 0) = true := by simpa using hz
  go_enter Try.func23, Try.ntmps23
  go_wp2_with (first | (go_at_call 60; refine NB.mono ?_; rintro e w_1 ⟨rfl, hb⟩))
  refine bodyPost_ret (v := .tuple #[.slice none 0 0, .int .i64 (chkE xs ys n)]) (by simp [results, Try.results23, go_sem] <;> (first | exact ⟨⟨rfl, rfl⟩, rfl⟩ | exact ⟨rfl, rfl, rfl, rfl⟩ | exact ⟨rfl, rfl, rfl⟩ | exact ⟨rfl, rfl⟩ | rfl)) rfl ⟨rfl, hb⟩

end Go.Proofs.Ytmgoancijepeoaa
