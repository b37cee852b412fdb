/-
  What each function of package poly answers, and what the reference of its chapter answers: one contract a function, for every float: the answer stands in the relation of its formula to what was given; of the memory that was there nothing has turned.
-/
import Derived.Test.YthbdckjfekimdabVec
import Derived.Test.YthbdckjfekimdabNh
import Derived.Test.YthbdckjfekimdabLsd
import Derived.Test.YthbdckjfekimdabOnc2
import Derived.Below
import Derived.WalkKit
import Derived.WalkLawsBesides
import Derived.WalkSpells
import Derived.ProofKit
import Derived.OpenShut
import Derived.Deep.RegionHeld3
namespace Go.Proofs.Ythbdckjfekimdab
open Go.ChangeShapes Go.WideShapes Go.ChangeAt Go.RowKit
set_option linter.unusedVariables false
set_option linter.unusedSimpArgs false


theorem but_set {g : Nat} {w : World} {o : Nat} {v : Value} : But g w (w.setCell ⟨g, o, none⟩ v) :=
  ⟨by simp [World.setCell], fun b o' _ hn => set_else (.inl hn), fun a => World.frozen?_setCell _ _ _ _⟩
theorem but_putN (g : Nat) : ∀ (n : Nat) (v : Value) (w : World), But g w (putN g n v w)
  | 0, v, w => But.rfl' g w
  | n + 1, v, w => (but_putN g n v w).trans but_set
theorem Sl.but {g b off n : Nat} {xs ys : Nat → Nat} {w w' : World} (h : Sl w b off n xs ys) (hb : But g w w') (hn : b ≠ g) : Sl w' b off n xs ys :=
  fun i hi => ⟨hb.keep (h i hi).1 hn, hb.keep (h i hi).2 hn⟩
set_option maxRecDepth 100000 in
set_option maxHeartbeats 2000000 in
theorem c2_n {g ca cb cx cy dx dy ax ay bx b_y nf1 na1 nb1 nc1 nd1 : Nat} {A B C D : Vp} {N : Nr} (w : World) (ha : isP ax ay A) (hb_ : isP bx b_y B) (hc_ : isP cx cy C) (hd_ : isP dx dy D) (hN1 : isN nf1 na1 nb1 nc1 nd1 (N)) (g0 : w.cell? ⟨g, 0, none⟩ = some (.float .f64 nf1)) (g1 : w.cell? ⟨g, 1, none⟩ = some (.float .f64 na1)) (g2 : w.cell? ⟨g, 2, none⟩ = some (.float .f64 nb1)) (g3 : w.cell? ⟨g, 3, none⟩ = some (.float .f64 nc1)) (g4 : w.cell? ⟨g, 4, none⟩ = some (.float .f64 nd1)) (a0 : w.cell? ⟨ca, 0, none⟩ = some (.float .f64 ax)) (a1 : w.cell? ⟨ca, 1, none⟩ = some (.float .f64 ay)) (b0 : w.cell? ⟨cb, 0, none⟩ = some (.float .f64 bx)) (b1 : w.cell? ⟨cb, 1, none⟩ = some (.float .f64 b_y)) (n1 : ca ≠ g) (n2 : cb ≠ g) (fg : ∀ o, w.frozen? ⟨g, o, none⟩ = false) :
    Calls Try.prog 52 #[.agg #[.float .f64 cx, .float .f64 cy], .agg #[.float .f64 dx, .float .f64 dy], .pointer (some ⟨g, 0, none⟩), .pointer (some ⟨ca, 0, none⟩), .pointer (some ⟨cb, 0, none⟩)] w fun e w' => ∃ nf3 na3 nb3 nc3 nd3 : Nat, isN nf3 na3 nb3 nc3 nd3 (nrF N (segF A B C D)) ∧ e = .returned (.tuple #[]) ∧ w'.cell? ⟨g, 0, none⟩ = some (.float .f64 nf3) ∧ w'.cell? ⟨g, 1, none⟩ = some (.float .f64 na3) ∧ w'.cell? ⟨g, 2, none⟩ = some (.float .f64 nb3) ∧ w'.cell? ⟨g, 3, none⟩ = some (.float .f64 nc3) ∧ w'.cell? ⟨g, 4, none⟩ = some (.float .f64 nd3) ∧ But g w w' ∧ ∀ w6, Bel w6 w → w6.heap.size ≤ g → Bel w6 w' := by
  have lg := World.block_lt_of_cell? _ _ g0
  simp only at lg
  have z0_0 : (w.alloc (.cells #[.float .f64 cx, .float .f64 cy] 28)).cell? ⟨w.heap.size, 0, none⟩ = some (.float .f64 cx) := by rw [World.cell?_alloc_new]; rfl
  replace z0_0 := up_alloc (o := .cells #[.float .f64 dx, .float .f64 dy] 28) z0_0
  have z0_1 : (w.alloc (.cells #[.float .f64 cx, .float .f64 cy] 28)).cell? ⟨w.heap.size, 1, none⟩ = some (.float .f64 cy) := by rw [World.cell?_alloc_new]; rfl
  replace z0_1 := up_alloc (o := .cells #[.float .f64 dx, .float .f64 dy] 28) z0_1
  have z1_0 : ((w.alloc (.cells #[.float .f64 cx, .float .f64 cy] 28)).alloc (.cells #[.float .f64 dx, .float .f64 dy] 28)).cell? ⟨w.heap.size + 1, 0, none⟩ = some (.float .f64 dx) := by rw [← (show (w.alloc (.cells #[.float .f64 cx, .float .f64 cy] 28)).heap.size = w.heap.size + 1 by simp only [World.size_alloc]), World.cell?_alloc_new]; rfl
  have z1_1 : ((w.alloc (.cells #[.float .f64 cx, .float .f64 cy] 28)).alloc (.cells #[.float .f64 dx, .float .f64 dy] 28)).cell? ⟨w.heap.size + 1, 1, none⟩ = some (.float .f64 dy) := by rw [← (show (w.alloc (.cells #[.float .f64 cx, .float .f64 cy] 28)).heap.size = w.heap.size + 1 by simp only [World.size_alloc]), World.cell?_alloc_new]; rfl
  have B0 : Bel w ((w.alloc (.cells #[.float .f64 cx, .float .f64 cy] 28)).alloc (.cells #[.float .f64 dx, .float .f64 dy] 28)) := bl_alloc (bl_alloc (bl_refl w) _ _) _ _
  replace g0 := keep B0 g0
  replace g1 := keep B0 g1
  replace g2 := keep B0 g2
  replace g3 := keep B0 g3
  replace g4 := keep B0 g4
  replace a0 := keep B0 a0
  replace a1 := keep B0 a1
  replace b0 := keep B0 b0
  replace b1 := keep B0 b1
  go_enter Try.func52, Try.ntmps52
  go_wp2
  refine wp_region_ret2 8 7 6 rfl (fun i v => match i with | 0 => v = .agg #[.float .f64 nf1, .float .f64 na1, .float .f64 nb1, .float .f64 nc1, .float .f64 nd1] | 1 => v = .agg #[.float .f64 ax, .float .f64 ay] | 2 => v = .agg #[.float .f64 bx, .float .f64 b_y] | 3 => v = .agg #[.float .f64 cx, .float .f64 cy] | 4 => v = .agg #[.float .f64 dx, .float .f64 dy] | 5 => ∃ nf2 na2 nb2 nc2 nd2, isN nf2 na2 nb2 nc2 nd2 (segF A B C D) ∧ v = .agg #[.float .f64 nf2, .float .f64 na2, .float .f64 nb2, .float .f64 nc2, .float .f64 nd2] | 6 => ∃ nf3 na3 nb3 nc3 nd3, isN nf3 na3 nb3 nc3 nd3 (nrF N (segF A B C D)) ∧ v = .agg #[.float .f64 nf3, .float .f64 na3, .float .f64 nb3, .float .f64 nc3, .float .f64 nd3] | _ => False) (putN g 5) ?A_wo (by kernel_rfl) (by kernel_rfl) (by kernel_rfl) (by decide) (by decide) ?hA_wo ?hst_wo ?hq_wo ?ht_wo
  case hA_wo =>
    intro s
    simp only [putL, dstO, Act.put, List.getElem?_toArray, List.getElem?_cons_zero, List.getElem?_cons_succ, Option.bind_some, List.setIfInBounds_toArray, List.set_cons_zero, List.set_cons_succ, if_true]
    all_goals exact rfl
  case hst_wo =>
    intro o ho s hs W hb K hK
    cases ho
    have u0 := keep hb g0; have u1 := keep hb g1; have u2 := keep hb g2; have u3 := keep hb g3; have u4 := keep hb g4; have u9 := fun o => (hb.2 ⟨g, o, none⟩).trans ((B0.2 _).trans (fg o))
    obtain ⟨nf3, na3, nb3, nc3, nd3, h6, e6⟩ := hs 6 (by decide) (by kernel_rfl)
    simp only [e6] at hK ⊢
    clear hs
    go_simp
    exact hK.out
  case hq_wo =>
    intro i o hi hne ho s hs W hb hbf K hK
    have uz0_0 := once_keepN hb z0_0 (by simp only; omega); have uz0_1 := once_keepN hb z0_1 (by simp only; omega); have uz1_0 := once_keepN hb z1_0 (by simp only; omega); have uz1_1 := once_keepN hb z1_1 (by simp only; omega); have ua0 := once_keepN hb a0 (by simp only; omega); have ua1 := once_keepN hb a1 (by simp only; omega); have ub0 := once_keepN hb b0 (by simp only; omega); have ub1 := once_keepN hb b1 (by simp only; omega)
    rcases (show i = 0 ∨ i = 1 ∨ i = 2 ∨ i = 3 ∨ i = 4 ∨ i = 5 ∨ i = 6 ∨ i = 7 by omega) with rfl | rfl | rfl | rfl | rfl | rfl | rfl | rfl
    · cases ho
      have hB2 := hbf (by kernel_rfl); have v0 := keep hB2 g0; have v1 := keep hB2 g1; have v2 := keep hB2 g2; have v3 := keep hB2 g3; have v4 := keep hB2 g4
      simp only [Act.put, List.setIfInBounds_toArray, List.set_cons_zero, List.set_cons_succ] at hK
      clear hs hne
      go_simp
      all_goals (try go_wp2_with (first | (go_at_call 24; refine (segments_n _ ha hb_ hc_ hd_).mono ?_; rintro e w8 ⟨nf2, na2, nb2, nc2, nd2, h5, rfl, hb1⟩) | (go_at_call 53; refine (nearer_n _ hN1 h5).mono ?_; rintro e w9 ⟨nf3, na3, nb3, nc3, nd3, h6, rfl, hb1⟩)))
      all_goals first | exact hK.out _ _ ⟨_, _, _, _, _, h5, rfl⟩ hb1 | exact hK.out _ _ ⟨_, _, _, _, _, h6, rfl⟩ hb1 | exact hK.out _ _ rfl (bl_refl _) | exact hK.out _ _ rfl (by assumption) | exact hK.out _ _ (by assumption) (by assumption)
    · cases ho
      simp only [Act.put, List.setIfInBounds_toArray, List.set_cons_zero, List.set_cons_succ] at hK
      clear hs hne
      go_simp
      all_goals (try go_wp2_with (first | (go_at_call 24; refine (segments_n _ ha hb_ hc_ hd_).mono ?_; rintro e w8 ⟨nf2, na2, nb2, nc2, nd2, h5, rfl, hb1⟩) | (go_at_call 53; refine (nearer_n _ hN1 h5).mono ?_; rintro e w9 ⟨nf3, na3, nb3, nc3, nd3, h6, rfl, hb1⟩)))
      all_goals first | exact hK.out _ _ ⟨_, _, _, _, _, h5, rfl⟩ hb1 | exact hK.out _ _ ⟨_, _, _, _, _, h6, rfl⟩ hb1 | exact hK.out _ _ rfl (bl_refl _) | exact hK.out _ _ rfl (by assumption) | exact hK.out _ _ (by assumption) (by assumption)
    · cases ho
      simp only [Act.put, List.setIfInBounds_toArray, List.set_cons_zero, List.set_cons_succ] at hK
      clear hs hne
      go_simp
      all_goals (try go_wp2_with (first | (go_at_call 24; refine (segments_n _ ha hb_ hc_ hd_).mono ?_; rintro e w8 ⟨nf2, na2, nb2, nc2, nd2, h5, rfl, hb1⟩) | (go_at_call 53; refine (nearer_n _ hN1 h5).mono ?_; rintro e w9 ⟨nf3, na3, nb3, nc3, nd3, h6, rfl, hb1⟩)))
      all_goals first | exact hK.out _ _ ⟨_, _, _, _, _, h5, rfl⟩ hb1 | exact hK.out _ _ ⟨_, _, _, _, _, h6, rfl⟩ hb1 | exact hK.out _ _ rfl (bl_refl _) | exact hK.out _ _ rfl (by assumption) | exact hK.out _ _ (by assumption) (by assumption)
    · cases ho
      simp only [Act.put, List.setIfInBounds_toArray, List.set_cons_zero, List.set_cons_succ] at hK
      clear hs hne
      go_simp
      all_goals (try go_wp2_with (first | (go_at_call 24; refine (segments_n _ ha hb_ hc_ hd_).mono ?_; rintro e w8 ⟨nf2, na2, nb2, nc2, nd2, h5, rfl, hb1⟩) | (go_at_call 53; refine (nearer_n _ hN1 h5).mono ?_; rintro e w9 ⟨nf3, na3, nb3, nc3, nd3, h6, rfl, hb1⟩)))
      all_goals first | exact hK.out _ _ ⟨_, _, _, _, _, h5, rfl⟩ hb1 | exact hK.out _ _ ⟨_, _, _, _, _, h6, rfl⟩ hb1 | exact hK.out _ _ rfl (bl_refl _) | exact hK.out _ _ rfl (by assumption) | exact hK.out _ _ (by assumption) (by assumption)
    · cases ho
      simp only [Act.put, List.setIfInBounds_toArray, List.set_cons_zero, List.set_cons_succ] at hK
      clear hs hne
      go_simp
      all_goals (try go_wp2_with (first | (go_at_call 24; refine (segments_n _ ha hb_ hc_ hd_).mono ?_; rintro e w8 ⟨nf2, na2, nb2, nc2, nd2, h5, rfl, hb1⟩) | (go_at_call 53; refine (nearer_n _ hN1 h5).mono ?_; rintro e w9 ⟨nf3, na3, nb3, nc3, nd3, h6, rfl, hb1⟩)))
      all_goals first | exact hK.out _ _ ⟨_, _, _, _, _, h5, rfl⟩ hb1 | exact hK.out _ _ ⟨_, _, _, _, _, h6, rfl⟩ hb1 | exact hK.out _ _ rfl (bl_refl _) | exact hK.out _ _ rfl (by assumption) | exact hK.out _ _ (by assumption) (by assumption)
    · cases ho
      have e1 : s 1 = _ := hs 1 (by decide) (by decide) (by kernel_rfl)
      have e2 : s 2 = _ := hs 2 (by decide) (by decide) (by kernel_rfl)
      have e3 : s 3 = _ := hs 3 (by decide) (by decide) (by kernel_rfl)
      have e4 : s 4 = _ := hs 4 (by decide) (by decide) (by kernel_rfl)
      simp only [e1, e2, e3, e4] at hK ⊢
      simp only [Act.put, List.setIfInBounds_toArray, List.set_cons_zero, List.set_cons_succ] at hK
      clear hs hne
      go_simp
      all_goals (try go_wp2_with (first | (go_at_call 24; refine (segments_n _ ha hb_ hc_ hd_).mono ?_; rintro e w8 ⟨nf2, na2, nb2, nc2, nd2, h5, rfl, hb1⟩) | (go_at_call 53; refine (nearer_n _ hN1 h5).mono ?_; rintro e w9 ⟨nf3, na3, nb3, nc3, nd3, h6, rfl, hb1⟩)))
      all_goals first | exact hK.out _ _ ⟨_, _, _, _, _, h5, rfl⟩ hb1 | exact hK.out _ _ ⟨_, _, _, _, _, h6, rfl⟩ hb1 | exact hK.out _ _ rfl (bl_refl _) | exact hK.out _ _ rfl (by assumption) | exact hK.out _ _ (by assumption) (by assumption)
    · cases ho
      have e0 : s 0 = _ := hs 0 (by decide) (by decide) (by kernel_rfl)
      obtain ⟨nf2, na2, nb2, nc2, nd2, h5, e5⟩ := hs 5 (by decide) (by decide) (by kernel_rfl)
      simp only [e0, e5] at hK ⊢
      simp only [Act.put, List.setIfInBounds_toArray, List.set_cons_zero, List.set_cons_succ] at hK
      clear hs hne
      go_simp
      all_goals (try go_wp2_with (first | (go_at_call 24; refine (segments_n _ ha hb_ hc_ hd_).mono ?_; rintro e w8 ⟨nf2, na2, nb2, nc2, nd2, h5, rfl, hb1⟩) | (go_at_call 53; refine (nearer_n _ hN1 h5).mono ?_; rintro e w9 ⟨nf3, na3, nb3, nc3, nd3, h6, rfl, hb1⟩)))
      all_goals first | exact hK.out _ _ ⟨_, _, _, _, _, h5, rfl⟩ hb1 | exact hK.out _ _ ⟨_, _, _, _, _, h6, rfl⟩ hb1 | exact hK.out _ _ rfl (bl_refl _) | exact hK.out _ _ rfl (by assumption) | exact hK.out _ _ (by assumption) (by assumption)
    · exact absurd rfl hne
  case ht_wo =>
    intro s hs W0 W hb0 hb
    have e0 : s 0 = _ := hs 0 (by decide) (by decide)
    have e1 : s 1 = _ := hs 1 (by decide) (by decide)
    have e2 : s 2 = _ := hs 2 (by decide) (by decide)
    have e3 : s 3 = _ := hs 3 (by decide) (by decide)
    have e4 : s 4 = _ := hs 4 (by decide) (by decide)
    obtain ⟨_, _, _, _, _, _, e5⟩ := hs 5 (by decide) (by decide)
    obtain ⟨nf3, na3, nb3, nc3, nd3, hN, e6⟩ := hs 6 (by decide) (by decide)
    simp only [e0, e1, e2, e3, e4, e5, e6]
    rw [e6] at hb
    clear hs e0 e1 e2 e3 e4 e5 e6
    have RA := putN_at (R := g) (W := W0) (v := .agg #[.float .f64 nf3, .float .f64 na3, .float .f64 nb3, .float .f64 nc3, .float .f64 nd3]) 5 (fun i hi => by rcases (show i = 0 ∨ i = 1 ∨ i = 2 ∨ i = 3 ∨ i = 4 by omega) with rfl | rfl | rfl | rfl | rfl <;> first | (rw [keep hb0 g0]; rfl) | (rw [keep hb0 g1]; rfl) | (rw [keep hb0 g2]; rfl) | (rw [keep hb0 g3]; rfl) | (rw [keep hb0 g4]; rfl))
    have R0 := keep hb (RA 0 (by decide)); have R1 := keep hb (RA 1 (by decide)); have R2 := keep hb (RA 2 (by decide)); have R3 := keep hb (RA 3 (by decide)); have R4 := keep hb (RA 4 (by decide))
    simp only [cellAt] at R0 R1 R2 R3 R4
    have bt : But g w W := ((bl_trans B0 hb0).but.trans (but_putN g 5 _ _)).trans hb.but
    have ba : ∀ w6, Bel w6 w → w6.heap.size ≤ g → Bel w6 W := fun w6 h6 hg => bl_trans (putN_bel (bl_trans h6 (bl_trans B0 hb0)) hg 5) hb
    go_wp2
    refine bodyPost_end (v := .tuple #[]) (by simp [results, Try.results52, go_sem]) rfl ?_
    exact ⟨nf3, na3, nb3, nc3, nd3, hN, rfl, R0, R1, R2, R3, R4, bt, ba⟩

set_option maxRecDepth 100000 in
set_option maxHeartbeats 2000000 in
theorem each23 (q1 q2 q3 : Value) (r b off n cap : Nat) (xs ys : Nat → Nat) (w : World) (I : Nat → World → Prop) (hst : ∀ j W W', I j W → Bel W W' → I j W') (hsl : ∀ j W, I j W → Sl W b off n xs ys) (h3 : 3 ≤ n) (hn : n ≤ 4000000000) (hcap : n ≤ cap) (h0 : I 0 w)
    (step : ∀ j W, j < n → I j W → Calls Try.prog 52 #[.agg #[.float .f64 (xs j), .float .f64 (ys j)], .agg #[.float .f64 (xs ((j + 1) % n)), .float .f64 (ys ((j + 1) % n))], q1, q2, q3] W fun e w' => e = .returned (.tuple #[]) ∧ I (j + 1) w') :
    Calls Try.prog 50 #[.agg #[.int .u8 3, .float .f64 r, .slice (some ⟨b, off, none⟩) n cap], .func (.func 52) #[] #[q1, q2, q3]] w fun e w' => e = .returned (.tuple #[]) ∧ I n w' := by
  obtain ⟨l, hl⟩ : ∃ l, l + 1 = n := ⟨n - 1, by omega⟩
  have wl : IntKind.wrap .i64 ((n : Int) - 1) = (l : Int) := by rw [IntKind.wrap_i64]; omega
  have wl2 : (n : Int) - 1 = (l : Int) := by omega
  go_enter Try.func50, Try.ntmps50
  go_wp2
  go_loopw [21] (fun i' wr => ∃ j : Nat, j ≤ l ∧ i' = .int .i64 j ∧ I j wr) (fun i' _ => l - (intOf i').toNat)
  case atStart => exact ⟨0, by omega, rfl, hst 0 _ _ h0 (bl_alloc (bl_refl w) _ _)⟩
  case round =>
    obtain ⟨j, hj, rfl, hI⟩ := hrel
    by_cases hlt : j < l
    · have k1 : (j : Int) < (l : Int) := by omega
      have k2 : (j : Int) < (n : Int) := by omega
      have k3 : (j : Int) + 1 < (n : Int) := by omega
      have k4 : ((j + 1 : Nat) : Int) < (n : Int) := by omega
      have k5 : (0 : Int) ≤ (j : Int) + 1 := by omega
      have wj : IntKind.wrap .i64 ((j : Int) + 1) = ((j + 1 : Nat) : Int) := by rw [IntKind.wrap_i64]; omega
      have em : (j + 1) % n = j + 1 := Nat.mod_eq_of_lt (by omega)
      have S1 := step j
      rw [em] at S1
      have hlb := hsl j wr hI
      obtain ⟨a0, a1⟩ := hlb j (by omega)
      go_wp2
      refine wp_region_monoT 10 (fun i W v => match i with | 0 => v = .func (.func 52) #[] #[q1, q2, q3] | 1 => v = .slice (some ⟨b, off, none⟩) n cap | 2 => v = .int .i64 (j : Int) | 3 => v = .pointer (some ⟨b, off + j * 2, none⟩) | 4 => v = .agg #[.float .f64 (xs j), .float .f64 (ys j)] | 5 => v = .slice (some ⟨b, off, none⟩) n cap | 6 => v = .int .i64 (j : Int) | 7 => v = .int .i64 ((j + 1 : Nat) : Int) | 8 => v = .pointer (some ⟨b, off + (j + 1) * 2, none⟩) | 9 => v = .agg #[.float .f64 (xs (j + 1)), .float .f64 (ys (j + 1))] | _ => False) ?A_wt (by kernel_rfl) (by kernel_rfl) ?hA_wt ?hmo_wt ?hq_wt [10] rfl ?ht_wt
      case hA_wt =>
        intro s
        simp only [putL, dstO, Act.put, List.getElem?_toArray, List.getElem?_cons_zero, List.getElem?_cons_succ, Option.bind_some, List.setIfInBounds_toArray, List.set_cons_zero, List.set_cons_succ, if_true]
        all_goals exact rfl
      case hmo_wt =>
        intro i W W' v hi hb h
        rcases (show i = 0 ∨ i = 1 ∨ i = 2 ∨ i = 3 ∨ i = 4 ∨ i = 5 ∨ i = 6 ∨ i = 7 ∨ i = 8 ∨ i = 9 by omega) with rfl | rfl | rfl | rfl | rfl | rfl | rfl | rfl | rfl | rfl
        all_goals first | exact h
      case hq_wt =>
        intro i o hi ho s W hs hb K hK
        have hs9 := hsl j W (hst j _ W hI hb); obtain ⟨a0, a1⟩ := hs9 j (by omega); obtain ⟨d0, d1⟩ := hs9 (j + 1) (by omega); have lb := World.block_lt_of_cell? _ _ a0; simp only at lb
        rcases (show i = 0 ∨ i = 1 ∨ i = 2 ∨ i = 3 ∨ i = 4 ∨ i = 5 ∨ i = 6 ∨ i = 7 ∨ i = 8 ∨ i = 9 by omega) with rfl | rfl | rfl | rfl | rfl | rfl | rfl | rfl | rfl | rfl
        · cases ho
          simp only [Act.put, List.setIfInBounds_toArray, List.set_cons_zero, List.set_cons_succ] at hK
          clear hs
          go_simp
          all_goals first | exact hK.out _ _ rfl (bl_refl _) | exact hK.out _ _ rfl (by assumption) | exact hK.out _ _ (by assumption) (by assumption)
        · cases ho
          simp only [Act.put, List.setIfInBounds_toArray, List.set_cons_zero, List.set_cons_succ] at hK
          clear hs
          go_simp
          all_goals first | exact hK.out _ _ rfl (bl_refl _) | exact hK.out _ _ rfl (by assumption) | exact hK.out _ _ (by assumption) (by assumption)
        · cases ho
          simp only [Act.put, List.setIfInBounds_toArray, List.set_cons_zero, List.set_cons_succ] at hK
          clear hs
          go_simp
          all_goals first | exact hK.out _ _ rfl (bl_refl _) | exact hK.out _ _ rfl (by assumption) | exact hK.out _ _ (by assumption) (by assumption)
        · cases ho
          have e1 : s 1 = _ := hs 1 (by decide) (by kernel_rfl)
          have e2 : s 2 = _ := hs 2 (by decide) (by kernel_rfl)
          simp only [e1, e2] at hK ⊢
          simp only [Act.put, List.setIfInBounds_toArray, List.set_cons_zero, List.set_cons_succ] at hK
          clear hs
          go_simp
          all_goals first | exact hK.out _ _ rfl (bl_refl _) | exact hK.out _ _ rfl (by assumption) | exact hK.out _ _ (by assumption) (by assumption)
        · cases ho
          have e3 : s 3 = _ := hs 3 (by decide) (by kernel_rfl)
          simp only [e3] at hK ⊢
          simp only [Act.put, List.setIfInBounds_toArray, List.set_cons_zero, List.set_cons_succ] at hK
          clear hs
          go_simp
          all_goals first | exact hK.out _ _ rfl (bl_refl _) | exact hK.out _ _ rfl (by assumption) | exact hK.out _ _ (by assumption) (by assumption)
        · cases ho
          simp only [Act.put, List.setIfInBounds_toArray, List.set_cons_zero, List.set_cons_succ] at hK
          clear hs
          go_simp
          all_goals first | exact hK.out _ _ rfl (bl_refl _) | exact hK.out _ _ rfl (by assumption) | exact hK.out _ _ (by assumption) (by assumption)
        · cases ho
          simp only [Act.put, List.setIfInBounds_toArray, List.set_cons_zero, List.set_cons_succ] at hK
          clear hs
          go_simp
          all_goals first | exact hK.out _ _ rfl (bl_refl _) | exact hK.out _ _ rfl (by assumption) | exact hK.out _ _ (by assumption) (by assumption)
        · cases ho
          have e6 : s 6 = _ := hs 6 (by decide) (by kernel_rfl)
          simp only [e6] at hK ⊢
          simp only [Act.put, List.setIfInBounds_toArray, List.set_cons_zero, List.set_cons_succ] at hK
          clear hs
          go_simp
          all_goals first | exact hK.out _ _ rfl (bl_refl _) | exact hK.out _ _ rfl (by assumption) | exact hK.out _ _ (by assumption) (by assumption)
        · cases ho
          have e5 : s 5 = _ := hs 5 (by decide) (by kernel_rfl)
          have e7 : s 7 = _ := hs 7 (by decide) (by kernel_rfl)
          simp only [e5, e7] at hK ⊢
          simp only [Act.put, List.setIfInBounds_toArray, List.set_cons_zero, List.set_cons_succ] at hK
          clear hs
          go_simp
          all_goals first | exact hK.out _ _ rfl (bl_refl _) | exact hK.out _ _ rfl (by assumption) | exact hK.out _ _ (by assumption) (by assumption)
        · cases ho
          have e8 : s 8 = _ := hs 8 (by decide) (by kernel_rfl)
          simp only [e8] at hK ⊢
          simp only [Act.put, List.setIfInBounds_toArray, List.set_cons_zero, List.set_cons_succ] at hK
          clear hs
          go_simp
          all_goals first | exact hK.out _ _ rfl (bl_refl _) | exact hK.out _ _ rfl (by assumption) | exact hK.out _ _ (by assumption) (by assumption)
      case ht_wt =>
        intro s W hs hb
        have e0 : s 0 = _ := hs 0 (by decide)
        have e1 : s 1 = _ := hs 1 (by decide)
        have e2 : s 2 = _ := hs 2 (by decide)
        have e3 : s 3 = _ := hs 3 (by decide)
        have e4 : s 4 = _ := hs 4 (by decide)
        have e5 : s 5 = _ := hs 5 (by decide)
        have e6 : s 6 = _ := hs 6 (by decide)
        have e7 : s 7 = _ := hs 7 (by decide)
        have e8 : s 8 = _ := hs 8 (by decide)
        have e9 : s 9 = _ := hs 9 (by decide)
        simp only [e0, e1, e2, e3, e4, e5, e6, e7, e8, e9]
        clear hs e0 e1 e2 e3 e4 e5 e6 e7 e8 e9
        refine tail_step rfl (fun K hK => ?_)
        go_simp
        go_wp2_with (first | (go_at_call 52; refine (S1 W (by omega) (hst j _ W hI hb)).mono ?_; rintro e w2 ⟨rfl, hI2⟩))
        refine hK.out _ _ ?_
        clear hK K
        refine tail_end ?_
        go_wp2
        exact ⟨⟨j + 1, by omega, by go_num, hI2⟩, by simp [intOf]; omega⟩
    · obtain rfl : j = l := by omega
      have k1 : ¬ (j : Int) < (j : Int) := by omega
      have k2 : (j : Int) < (n : Int) := by omega
      have k3 : (0 : Int) < (n : Int) := by omega
      have k6 : 0 < n := by omega
      have k7 : n ≠ 0 := by omega
      have em : (j + 1) % n = 0 := by rw [hl]; exact Nat.mod_self n
      have S2 := step j
      rw [em, hl] at S2
      have hlb := hsl j wr hI
      obtain ⟨a0, a1⟩ := hlb j (by omega)
      go_wp2
      refine wp_region_monoT 8 (fun i W v => match i with | 0 => v = .func (.func 52) #[] #[q1, q2, q3] | 1 => v = .slice (some ⟨b, off, none⟩) n cap | 2 => v = .int .i64 (j : Int) | 3 => v = .pointer (some ⟨b, off + j * 2, none⟩) | 4 => v = .agg #[.float .f64 (xs j), .float .f64 (ys j)] | 5 => v = .slice (some ⟨b, off, none⟩) n cap | 6 => v = .pointer (some ⟨b, off, none⟩) | 7 => v = .agg #[.float .f64 (xs 0), .float .f64 (ys 0)] | _ => False) ?A_wu (by kernel_rfl) (by kernel_rfl) ?hA_wu ?hmo_wu ?hq_wu [8] rfl ?ht_wu
      case hA_wu =>
        intro s
        simp only [putL, dstO, Act.put, List.getElem?_toArray, List.getElem?_cons_zero, List.getElem?_cons_succ, Option.bind_some, List.setIfInBounds_toArray, List.set_cons_zero, List.set_cons_succ, if_true]
        all_goals exact rfl
      case hmo_wu =>
        intro i W W' v hi hb h
        rcases (show i = 0 ∨ i = 1 ∨ i = 2 ∨ i = 3 ∨ i = 4 ∨ i = 5 ∨ i = 6 ∨ i = 7 by omega) with rfl | rfl | rfl | rfl | rfl | rfl | rfl | rfl
        all_goals first | exact h
      case hq_wu =>
        intro i o hi ho s W hs hb K hK
        have hs9 := hsl _ W (hst _ _ W hI hb); obtain ⟨a0, a1⟩ := hs9 (j) (by omega); obtain ⟨d0, d1⟩ := hs9 0 (by omega); simp only [Nat.zero_mul, Nat.add_zero] at d0 d1; have lb := World.block_lt_of_cell? _ _ a0; simp only at lb
        rcases (show i = 0 ∨ i = 1 ∨ i = 2 ∨ i = 3 ∨ i = 4 ∨ i = 5 ∨ i = 6 ∨ i = 7 by omega) with rfl | rfl | rfl | rfl | rfl | rfl | rfl | rfl
        · cases ho
          simp only [Act.put, List.setIfInBounds_toArray, List.set_cons_zero, List.set_cons_succ] at hK
          clear hs
          go_simp
          all_goals first | exact hK.out _ _ rfl (bl_refl _) | exact hK.out _ _ rfl (by assumption) | exact hK.out _ _ (by assumption) (by assumption)
        · cases ho
          simp only [Act.put, List.setIfInBounds_toArray, List.set_cons_zero, List.set_cons_succ] at hK
          clear hs
          go_simp
          all_goals first | exact hK.out _ _ rfl (bl_refl _) | exact hK.out _ _ rfl (by assumption) | exact hK.out _ _ (by assumption) (by assumption)
        · cases ho
          simp only [Act.put, List.setIfInBounds_toArray, List.set_cons_zero, List.set_cons_succ] at hK
          clear hs
          go_simp
          all_goals first | exact hK.out _ _ rfl (bl_refl _) | exact hK.out _ _ rfl (by assumption) | exact hK.out _ _ (by assumption) (by assumption)
        · cases ho
          have e1 : s 1 = _ := hs 1 (by decide) (by kernel_rfl)
          have e2 : s 2 = _ := hs 2 (by decide) (by kernel_rfl)
          simp only [e1, e2] at hK ⊢
          simp only [Act.put, List.setIfInBounds_toArray, List.set_cons_zero, List.set_cons_succ] at hK
          clear hs
          go_simp
          all_goals first | exact hK.out _ _ rfl (bl_refl _) | exact hK.out _ _ rfl (by assumption) | exact hK.out _ _ (by assumption) (by assumption)
        · cases ho
          have e3 : s 3 = _ := hs 3 (by decide) (by kernel_rfl)
          simp only [e3] at hK ⊢
          simp only [Act.put, List.setIfInBounds_toArray, List.set_cons_zero, List.set_cons_succ] at hK
          clear hs
          go_simp
          all_goals first | exact hK.out _ _ rfl (bl_refl _) | exact hK.out _ _ rfl (by assumption) | exact hK.out _ _ (by assumption) (by assumption)
        · cases ho
          simp only [Act.put, List.setIfInBounds_toArray, List.set_cons_zero, List.set_cons_succ] at hK
          clear hs
          go_simp
          all_goals first | exact hK.out _ _ rfl (bl_refl _) | exact hK.out _ _ rfl (by assumption) | exact hK.out _ _ (by assumption) (by assumption)
        · cases ho
          have e5 : s 5 = _ := hs 5 (by decide) (by kernel_rfl)
          simp only [e5] at hK ⊢
          simp only [Act.put, List.setIfInBounds_toArray, List.set_cons_zero, List.set_cons_succ] at hK
          clear hs
          go_simp
          all_goals first | exact hK.out _ _ rfl (bl_refl _) | exact hK.out _ _ rfl (by assumption) | exact hK.out _ _ (by assumption) (by assumption)
        · cases ho
          have e6 : s 6 = _ := hs 6 (by decide) (by kernel_rfl)
          simp only [e6] at hK ⊢
          simp only [Act.put, List.setIfInBounds_toArray, List.set_cons_zero, List.set_cons_succ] at hK
          clear hs
          go_simp
          all_goals first | exact hK.out _ _ rfl (bl_refl _) | exact hK.out _ _ rfl (by assumption) | exact hK.out _ _ (by assumption) (by assumption)
      case ht_wu =>
        intro s W hs hb
        have e0 : s 0 = _ := hs 0 (by decide)
        have e1 : s 1 = _ := hs 1 (by decide)
        have e2 : s 2 = _ := hs 2 (by decide)
        have e3 : s 3 = _ := hs 3 (by decide)
        have e4 : s 4 = _ := hs 4 (by decide)
        have e5 : s 5 = _ := hs 5 (by decide)
        have e6 : s 6 = _ := hs 6 (by decide)
        have e7 : s 7 = _ := hs 7 (by decide)
        simp only [e0, e1, e2, e3, e4, e5, e6, e7]
        clear hs e0 e1 e2 e3 e4 e5 e6 e7
        refine tail_step rfl (fun K hK => ?_)
        go_simp
        go_wp2_with (first | (go_at_call 52; refine (S2 W (by omega) (hst j _ W hI hb)).mono ?_; rintro e w2 ⟨rfl, hI2⟩))
        refine hK.out _ _ ?_
        clear hK K
        refine tail_end ?_
        go_wp2
        refine bodyPost_end (v := .tuple #[]) (by simp [results, Try.results50, go_sem]) rfl ?_
        exact ⟨rfl, hI2⟩

set_option maxRecDepth 100000 in
set_option maxHeartbeats 2000000 in
theorem each21 (q1 q2 q3 : Value) (r b off cap : Nat) (xs ys : Nat → Nat) (w : World) (I : Nat → World → Prop) (hst : ∀ j W W', I j W → Bel W W' → I j W') (hsl : ∀ j W, I j W → Sl W b off 1 xs ys) (hcap : 1 ≤ cap) (h0 : I 0 w) (step : ∀ j W, j < 1 → I j W → Calls Try.prog 52 #[.agg #[.float .f64 (xs j), .float .f64 (ys j)], .agg #[.float .f64 (xs ((j + 1) % 1)), .float .f64 (ys ((j + 1) % 1))], q1, q2, q3] W fun e w' => e = .returned (.tuple #[]) ∧ I (j + 1) w') : Calls Try.prog 50 #[.agg #[.int .u8 1, .float .f64 r, .slice (some ⟨b, off, none⟩) 1 cap], .func (.func 52) #[] #[q1, q2, q3]] w fun e w' => e = .returned (.tuple #[]) ∧ I 1 w' := by
  obtain ⟨e0, e1⟩ := hsl 0 w h0 0 (by omega)
  have lw := World.block_lt_of_cell? _ _ e0
  simp only at lw
  go_enter Try.func50, Try.ntmps50
  go_wp2
  · refine wp_region_monoT 8 (fun i W v => match i with | 0 => v = .func (.func 52) #[] #[q1, q2, q3] | 1 => v = .slice (some ⟨b, off, none⟩) 1 cap | 2 => v = .int .i64 0 | 3 => v = .pointer (some ⟨b, off, none⟩) | 4 => v = .agg #[.float .f64 (xs 0), .float .f64 (ys 0)] | 5 => v = .slice (some ⟨b, off, none⟩) 1 cap | 6 => v = .pointer (some ⟨b, off, none⟩) | 7 => v = .agg #[.float .f64 (xs 0), .float .f64 (ys 0)] | _ => False) ?A_wt (by kernel_rfl) (by kernel_rfl) ?hA_wt ?hmo_wt ?hq_wt [8] rfl ?ht_wt
    case hA_wt =>
      intro s
      simp only [putL, dstO, Act.put, List.getElem?_toArray, List.getElem?_cons_zero, List.getElem?_cons_succ, Option.bind_some, List.setIfInBounds_toArray, List.set_cons_zero, List.set_cons_succ, if_true]
      all_goals exact rfl
    case hmo_wt =>
      intro i W W' v hi hb h
      rcases (show i = 0 ∨ i = 1 ∨ i = 2 ∨ i = 3 ∨ i = 4 ∨ i = 5 ∨ i = 6 ∨ i = 7 by omega) with rfl | rfl | rfl | rfl | rfl | rfl | rfl | rfl
      all_goals first | exact h
    case hq_wt =>
      intro i o hi ho s W hs hb K hK
      have hs9 := hsl 0 W (hst 0 _ W h0 (bl_trans (bl_alloc (bl_refl w) _ _) hb)); obtain ⟨a0, a1⟩ := hs9 0 (by omega); simp only [Nat.zero_mul, Nat.add_zero] at a0 a1; have lb := World.block_lt_of_cell? _ _ a0; simp only at lb
      rcases (show i = 0 ∨ i = 1 ∨ i = 2 ∨ i = 3 ∨ i = 4 ∨ i = 5 ∨ i = 6 ∨ i = 7 by omega) with rfl | rfl | rfl | rfl | rfl | rfl | rfl | rfl
      · cases ho
        simp only [Act.put, List.setIfInBounds_toArray, List.set_cons_zero, List.set_cons_succ] at hK
        clear hs
        go_simp
        all_goals first | exact hK.out _ _ rfl (bl_refl _) | exact hK.out _ _ rfl (by assumption) | exact hK.out _ _ (by assumption) (by assumption)
      · cases ho
        simp only [Act.put, List.setIfInBounds_toArray, List.set_cons_zero, List.set_cons_succ] at hK
        clear hs
        go_simp
        all_goals first | exact hK.out _ _ rfl (bl_refl _) | exact hK.out _ _ rfl (by assumption) | exact hK.out _ _ (by assumption) (by assumption)
      · cases ho
        simp only [Act.put, List.setIfInBounds_toArray, List.set_cons_zero, List.set_cons_succ] at hK
        clear hs
        go_simp
        all_goals first | exact hK.out _ _ rfl (bl_refl _) | exact hK.out _ _ rfl (by assumption) | exact hK.out _ _ (by assumption) (by assumption)
      · cases ho
        have e1 : s 1 = _ := hs 1 (by decide) (by kernel_rfl)
        have e2 : s 2 = _ := hs 2 (by decide) (by kernel_rfl)
        simp only [e1, e2] at hK ⊢
        simp only [Act.put, List.setIfInBounds_toArray, List.set_cons_zero, List.set_cons_succ] at hK
        clear hs
        go_simp
        all_goals first | exact hK.out _ _ rfl (bl_refl _) | exact hK.out _ _ rfl (by assumption) | exact hK.out _ _ (by assumption) (by assumption)
      · cases ho
        have e3 : s 3 = _ := hs 3 (by decide) (by kernel_rfl)
        simp only [e3] at hK ⊢
        simp only [Act.put, List.setIfInBounds_toArray, List.set_cons_zero, List.set_cons_succ] at hK
        clear hs
        go_simp
        all_goals first | exact hK.out _ _ rfl (bl_refl _) | exact hK.out _ _ rfl (by assumption) | exact hK.out _ _ (by assumption) (by assumption)
      · cases ho
        simp only [Act.put, List.setIfInBounds_toArray, List.set_cons_zero, List.set_cons_succ] at hK
        clear hs
        go_simp
        all_goals first | exact hK.out _ _ rfl (bl_refl _) | exact hK.out _ _ rfl (by assumption) | exact hK.out _ _ (by assumption) (by assumption)
      · cases ho
        have e5 : s 5 = _ := hs 5 (by decide) (by kernel_rfl)
        simp only [e5] at hK ⊢
        simp only [Act.put, List.setIfInBounds_toArray, List.set_cons_zero, List.set_cons_succ] at hK
        clear hs
        go_simp
        all_goals first | exact hK.out _ _ rfl (bl_refl _) | exact hK.out _ _ rfl (by assumption) | exact hK.out _ _ (by assumption) (by assumption)
      · cases ho
        have e6 : s 6 = _ := hs 6 (by decide) (by kernel_rfl)
        simp only [e6] at hK ⊢
        simp only [Act.put, List.setIfInBounds_toArray, List.set_cons_zero, List.set_cons_succ] at hK
        clear hs
        go_simp
        all_goals first | exact hK.out _ _ rfl (bl_refl _) | exact hK.out _ _ rfl (by assumption) | exact hK.out _ _ (by assumption) (by assumption)
    case ht_wt =>
      intro s W hs hb
      have e0 : s 0 = _ := hs 0 (by decide)
      have e1 : s 1 = _ := hs 1 (by decide)
      have e2 : s 2 = _ := hs 2 (by decide)
      have e3 : s 3 = _ := hs 3 (by decide)
      have e4 : s 4 = _ := hs 4 (by decide)
      have e5 : s 5 = _ := hs 5 (by decide)
      have e6 : s 6 = _ := hs 6 (by decide)
      have e7 : s 7 = _ := hs 7 (by decide)
      simp only [e0, e1, e2, e3, e4, e5, e6, e7]
      clear hs e0 e1 e2 e3 e4 e5 e6 e7
      refine tail_step rfl (fun K hK => ?_)
      go_simp
      go_wp2_with (first | (go_at_call 52; refine (step 0 W (by omega) (hst 0 _ W h0 (bl_trans (bl_alloc (bl_refl w) _ _) hb))).mono ?_; rintro e w2 ⟨rfl, hI2⟩))
      refine hK.out _ _ ?_
      clear hK K
      refine tail_end ?_
      go_wp2
      refine bodyPost_end (v := .tuple #[]) (by simp [results, Try.results50, go_sem]) rfl ?_
      exact ⟨rfl, hI2⟩
set_option maxRecDepth 100000 in
set_option maxHeartbeats 2000000 in
theorem each22 (q1 q2 q3 : Value) (r b off cap : Nat) (xs ys : Nat → Nat) (w : World) (I : Nat → World → Prop) (hst : ∀ j W W', I j W → Bel W W' → I j W') (hsl : ∀ j W, I j W → Sl W b off 2 xs ys) (hcap : 2 ≤ cap) (h0 : I 0 w) (step : ∀ j W, j < 1 → I j W → Calls Try.prog 52 #[.agg #[.float .f64 (xs j), .float .f64 (ys j)], .agg #[.float .f64 (xs ((j + 1) % 2)), .float .f64 (ys ((j + 1) % 2))], q1, q2, q3] W fun e w' => e = .returned (.tuple #[]) ∧ I (j + 1) w') : Calls Try.prog 50 #[.agg #[.int .u8 2, .float .f64 r, .slice (some ⟨b, off, none⟩) 2 cap], .func (.func 52) #[] #[q1, q2, q3]] w fun e w' => e = .returned (.tuple #[]) ∧ I 1 w' := by
  obtain ⟨e0, e1⟩ := hsl 0 w h0 0 (by omega)
  have lw := World.block_lt_of_cell? _ _ e0
  simp only at lw
  go_enter Try.func50, Try.ntmps50
  go_wp2
  · refine wp_region_monoT 7 (fun i W v => match i with | 0 => v = .func (.func 52) #[] #[q1, q2, q3] | 1 => v = .slice (some ⟨b, off, none⟩) 2 cap | 2 => v = .pointer (some ⟨b, off, none⟩) | 3 => v = .agg #[.float .f64 (xs 0), .float .f64 (ys 0)] | 4 => v = .slice (some ⟨b, off, none⟩) 2 cap | 5 => v = .pointer (some ⟨b, off + 2, none⟩) | 6 => v = .agg #[.float .f64 (xs 1), .float .f64 (ys 1)] | _ => False) ?A_wt (by kernel_rfl) (by kernel_rfl) ?hA_wt ?hmo_wt ?hq_wt [7] rfl ?ht_wt
    case hA_wt =>
      intro s
      simp only [putL, dstO, Act.put, List.getElem?_toArray, List.getElem?_cons_zero, List.getElem?_cons_succ, Option.bind_some, List.setIfInBounds_toArray, List.set_cons_zero, List.set_cons_succ, if_true]
      all_goals exact rfl
    case hmo_wt =>
      intro i W W' v hi hb h
      rcases (show i = 0 ∨ i = 1 ∨ i = 2 ∨ i = 3 ∨ i = 4 ∨ i = 5 ∨ i = 6 by omega) with rfl | rfl | rfl | rfl | rfl | rfl | rfl
      all_goals first | exact h
    case hq_wt =>
      intro i o hi ho s W hs hb K hK
      have hs9 := hsl 0 W (hst 0 _ W h0 (bl_trans (bl_alloc (bl_refl w) _ _) hb)); obtain ⟨a0, a1⟩ := hs9 0 (by omega); obtain ⟨d0, d1⟩ := hs9 1 (by omega); simp only [Nat.zero_mul, Nat.add_zero, Nat.one_mul] at a0 a1 d0 d1; have lb := World.block_lt_of_cell? _ _ a0; simp only at lb
      rcases (show i = 0 ∨ i = 1 ∨ i = 2 ∨ i = 3 ∨ i = 4 ∨ i = 5 ∨ i = 6 by omega) with rfl | rfl | rfl | rfl | rfl | rfl | rfl
      · cases ho
        simp only [Act.put, List.setIfInBounds_toArray, List.set_cons_zero, List.set_cons_succ] at hK
        clear hs
        go_simp
        all_goals first | exact hK.out _ _ rfl (bl_refl _) | exact hK.out _ _ rfl (by assumption) | exact hK.out _ _ (by assumption) (by assumption)
      · cases ho
        simp only [Act.put, List.setIfInBounds_toArray, List.set_cons_zero, List.set_cons_succ] at hK
        clear hs
        go_simp
        all_goals first | exact hK.out _ _ rfl (bl_refl _) | exact hK.out _ _ rfl (by assumption) | exact hK.out _ _ (by assumption) (by assumption)
      · cases ho
        have e1 : s 1 = _ := hs 1 (by decide) (by kernel_rfl)
        simp only [e1] at hK ⊢
        simp only [Act.put, List.setIfInBounds_toArray, List.set_cons_zero, List.set_cons_succ] at hK
        clear hs
        go_simp
        all_goals first | exact hK.out _ _ rfl (bl_refl _) | exact hK.out _ _ rfl (by assumption) | exact hK.out _ _ (by assumption) (by assumption)
      · cases ho
        have e2 : s 2 = _ := hs 2 (by decide) (by kernel_rfl)
        simp only [e2] at hK ⊢
        simp only [Act.put, List.setIfInBounds_toArray, List.set_cons_zero, List.set_cons_succ] at hK
        clear hs
        go_simp
        all_goals first | exact hK.out _ _ rfl (bl_refl _) | exact hK.out _ _ rfl (by assumption) | exact hK.out _ _ (by assumption) (by assumption)
      · cases ho
        simp only [Act.put, List.setIfInBounds_toArray, List.set_cons_zero, List.set_cons_succ] at hK
        clear hs
        go_simp
        all_goals first | exact hK.out _ _ rfl (bl_refl _) | exact hK.out _ _ rfl (by assumption) | exact hK.out _ _ (by assumption) (by assumption)
      · cases ho
        have e4 : s 4 = _ := hs 4 (by decide) (by kernel_rfl)
        simp only [e4] at hK ⊢
        simp only [Act.put, List.setIfInBounds_toArray, List.set_cons_zero, List.set_cons_succ] at hK
        clear hs
        go_simp
        all_goals first | exact hK.out _ _ rfl (bl_refl _) | exact hK.out _ _ rfl (by assumption) | exact hK.out _ _ (by assumption) (by assumption)
      · cases ho
        have e5 : s 5 = _ := hs 5 (by decide) (by kernel_rfl)
        simp only [e5] at hK ⊢
        simp only [Act.put, List.setIfInBounds_toArray, List.set_cons_zero, List.set_cons_succ] at hK
        clear hs
        go_simp
        all_goals first | exact hK.out _ _ rfl (bl_refl _) | exact hK.out _ _ rfl (by assumption) | exact hK.out _ _ (by assumption) (by assumption)
    case ht_wt =>
      intro s W hs hb
      have e0 : s 0 = _ := hs 0 (by decide)
      have e1 : s 1 = _ := hs 1 (by decide)
      have e2 : s 2 = _ := hs 2 (by decide)
      have e3 : s 3 = _ := hs 3 (by decide)
      have e4 : s 4 = _ := hs 4 (by decide)
      have e5 : s 5 = _ := hs 5 (by decide)
      have e6 : s 6 = _ := hs 6 (by decide)
      simp only [e0, e1, e2, e3, e4, e5, e6]
      clear hs e0 e1 e2 e3 e4 e5 e6
      refine tail_step rfl (fun K hK => ?_)
      go_simp
      go_wp2_with (first | (go_at_call 52; refine (step 0 W (by omega) (hst 0 _ W h0 (bl_trans (bl_alloc (bl_refl w) _ _) hb))).mono ?_; rintro e w2 ⟨rfl, hI2⟩))
      refine hK.out _ _ ?_
      clear hK K
      refine tail_end ?_
      go_wp2
      refine bodyPost_end (v := .tuple #[]) (by simp [results, Try.results50, go_sem]) rfl ?_
      exact ⟨rfl, hI2⟩
theorem each2_any (k : Int) (n : Nat) (hk : Kd k n) (q1 q2 q3 : Value) (r b off cap : Nat) (xs ys : Nat → Nat) (w : World) (I : Nat → World → Prop) (hst : ∀ j W W', I j W → Bel W W' → I j W') (hsl : ∀ j W, I j W → Sl W b off n xs ys) (hcap : n ≤ cap) (h0 : I 0 w) (hn : n ≤ 4000000000) (step : ∀ j W, j < sdN k n → I j W → Calls Try.prog 52 #[.agg #[.float .f64 (xs j), .float .f64 (ys j)], .agg #[.float .f64 (xs ((j + 1) % n)), .float .f64 (ys ((j + 1) % n))], q1, q2, q3] W fun e w' => e = .returned (.tuple #[]) ∧ I (j + 1) w') : Calls Try.prog 50 #[.agg #[.int .u8 k, .float .f64 r, .slice (some ⟨b, off, none⟩) n cap], .func (.func 52) #[] #[q1, q2, q3]] w fun e w' => e = .returned (.tuple #[]) ∧ I (sdN k n) w' := by
  rcases hk with ⟨rfl, rfl⟩ | ⟨rfl, rfl⟩ | ⟨rfl, h3⟩
  · exact each21 q1 q2 q3 r b off cap xs ys w I hst hsl hcap h0 step
  · exact each22 q1 q2 q3 r b off cap xs ys w I hst hsl hcap h0 step
  · exact each23 q1 q2 q3 r b off n cap xs ys w I hst hsl h3 hn hcap h0 step

end Go.Proofs.Ythbdckjfekimdab
