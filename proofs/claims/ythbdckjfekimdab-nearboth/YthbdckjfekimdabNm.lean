/-
  What each function of package poly answers, and what the reference of its chapter answers: one contract a function, for every float: the answer stands in the relation of its formula to what was given; of the memory that was there nothing has turned.
-/
import Derived.Test.YthbdckjfekimdabVec
import Derived.Test.YthbdckjfekimdabNl
import Derived.Below
import Derived.WalkKit
import Derived.WalkLawsBesides
import Derived.WalkSpells
import Derived.ProofKit
import Derived.OpenShut
import Derived.Deep.RegionHeld3
namespace Go.Proofs.Ythbdckjfekimdab
open Go.ChangeShapes Go.WideShapes Go.ChangeAt Go.RowKit
set_option linter.unusedVariables false
set_option linter.unusedSimpArgs false


set_option maxRecDepth 100000 in
set_option maxHeartbeats 2000000 in
theorem c1_n {g cs rb b off m cap ax ay bx b_y nf1 na1 nb1 nc1 nd1 : Nat} {kb : Int} {us vs : Nat → Nat} {A B : Vp} {N : Nr} (w : World) (ha : isP ax ay A) (hb_ : isP bx b_y B) (hN1 : isN nf1 na1 nb1 nc1 nd1 (N)) (g0 : w.cell? ⟨g, 0, none⟩ = some (.float .f64 nf1)) (g1 : w.cell? ⟨g, 1, none⟩ = some (.float .f64 na1)) (g2 : w.cell? ⟨g, 2, none⟩ = some (.float .f64 nb1)) (g3 : w.cell? ⟨g, 3, none⟩ = some (.float .f64 nc1)) (g4 : w.cell? ⟨g, 4, none⟩ = some (.float .f64 nd1)) (s0 : w.cell? ⟨cs, 0, none⟩ = some (.int .u8 kb)) (s1 : w.cell? ⟨cs, 1, none⟩ = some (.float .f64 rb)) (s2 : w.cell? ⟨cs, 2, none⟩ = some (.slice (some ⟨b, off, none⟩) m cap)) (n1 : cs ≠ g) (hbg : b ≠ g) (fg : ∀ o, w.frozen? ⟨g, o, none⟩ = false) (hS : Sl w b off m us vs) (hO : Oks us vs m) (hk : Kd kb m) (hcap : m ≤ cap) (hm : m ≤ 4000000000) :
    Calls Try.prog 51 #[.agg #[.float .f64 ax, .float .f64 ay], .agg #[.float .f64 bx, .float .f64 b_y], .pointer (some ⟨cs, 0, none⟩), .pointer (some ⟨g, 0, none⟩)] w fun e w' => ∃ nf3 na3 nb3 nc3 nd3 : Nat, isN nf3 na3 nb3 nc3 nd3 (inF A B us vs m N (sdN kb m)) ∧ e = .returned (.tuple #[]) ∧ w'.cell? ⟨g, 0, none⟩ = some (.float .f64 nf3) ∧ w'.cell? ⟨g, 1, none⟩ = some (.float .f64 na3) ∧ w'.cell? ⟨g, 2, none⟩ = some (.float .f64 nb3) ∧ w'.cell? ⟨g, 3, none⟩ = some (.float .f64 nc3) ∧ w'.cell? ⟨g, 4, none⟩ = some (.float .f64 nd3) ∧ But g w w' ∧ ∀ w6, Bel w6 w → w6.heap.size ≤ g → Bel w6 w' := by
  have lg := World.block_lt_of_cell? _ _ g0
  have lc := World.block_lt_of_cell? _ _ s0
  simp only at lg lc
  have z0_0 : (w.alloc (.cells #[.float .f64 ax, .float .f64 ay] 28)).cell? ⟨w.heap.size, 0, none⟩ = some (.float .f64 ax) := by rw [World.cell?_alloc_new]; rfl
  replace z0_0 := up_alloc (o := .cells #[.float .f64 bx, .float .f64 b_y] 28) z0_0
  have z0_1 : (w.alloc (.cells #[.float .f64 ax, .float .f64 ay] 28)).cell? ⟨w.heap.size, 1, none⟩ = some (.float .f64 ay) := by rw [World.cell?_alloc_new]; rfl
  replace z0_1 := up_alloc (o := .cells #[.float .f64 bx, .float .f64 b_y] 28) z0_1
  have z1_0 : ((w.alloc (.cells #[.float .f64 ax, .float .f64 ay] 28)).alloc (.cells #[.float .f64 bx, .float .f64 b_y] 28)).cell? ⟨w.heap.size + 1, 0, none⟩ = some (.float .f64 bx) := by rw [← (show (w.alloc (.cells #[.float .f64 ax, .float .f64 ay] 28)).heap.size = w.heap.size + 1 by simp only [World.size_alloc]), World.cell?_alloc_new]; rfl
  have z1_1 : ((w.alloc (.cells #[.float .f64 ax, .float .f64 ay] 28)).alloc (.cells #[.float .f64 bx, .float .f64 b_y] 28)).cell? ⟨w.heap.size + 1, 1, none⟩ = some (.float .f64 b_y) := by rw [← (show (w.alloc (.cells #[.float .f64 ax, .float .f64 ay] 28)).heap.size = w.heap.size + 1 by simp only [World.size_alloc]), World.cell?_alloc_new]; rfl
  have B0 : Bel w ((w.alloc (.cells #[.float .f64 ax, .float .f64 ay] 28)).alloc (.cells #[.float .f64 bx, .float .f64 b_y] 28)) := bl_alloc (bl_alloc (bl_refl w) _ _) _ _
  replace g0 := keep B0 g0
  replace g1 := keep B0 g1
  replace g2 := keep B0 g2
  replace g3 := keep B0 g3
  replace g4 := keep B0 g4
  replace s0 := keep B0 s0
  replace s1 := keep B0 s1
  replace s2 := keep B0 s2
  have STEP : ∀ j W, j < sdN kb m → (fun j W => But g ((w.alloc (.cells #[.float .f64 ax, .float .f64 ay] 28)).alloc (.cells #[.float .f64 bx, .float .f64 b_y] 28)) W ∧ (∀ w6, Bel w6 ((w.alloc (.cells #[.float .f64 ax, .float .f64 ay] 28)).alloc (.cells #[.float .f64 bx, .float .f64 b_y] 28)) → w6.heap.size ≤ g → Bel w6 W) ∧ ∃ nf3 na3 nb3 nc3 nd3 : Nat, isN nf3 na3 nb3 nc3 nd3 (inF A B us vs m N j) ∧ W.cell? ⟨g, 0, none⟩ = some (.float .f64 nf3) ∧ W.cell? ⟨g, 1, none⟩ = some (.float .f64 na3) ∧ W.cell? ⟨g, 2, none⟩ = some (.float .f64 nb3) ∧ W.cell? ⟨g, 3, none⟩ = some (.float .f64 nc3) ∧ W.cell? ⟨g, 4, none⟩ = some (.float .f64 nd3)) j W → Calls Try.prog 52 #[.agg #[.float .f64 (us j), .float .f64 (vs j)], .agg #[.float .f64 (us ((j + 1) % m)), .float .f64 (vs ((j + 1) % m))], .pointer (some ⟨g, 0, none⟩), .pointer (some ⟨w.heap.size, 0, none⟩), .pointer (some ⟨w.heap.size + 1, 0, none⟩)] W fun e w' => e = .returned (.tuple #[]) ∧ (fun j W => But g ((w.alloc (.cells #[.float .f64 ax, .float .f64 ay] 28)).alloc (.cells #[.float .f64 bx, .float .f64 b_y] 28)) W ∧ (∀ w6, Bel w6 ((w.alloc (.cells #[.float .f64 ax, .float .f64 ay] 28)).alloc (.cells #[.float .f64 bx, .float .f64 b_y] 28)) → w6.heap.size ≤ g → Bel w6 W) ∧ ∃ nf3 na3 nb3 nc3 nd3 : Nat, isN nf3 na3 nb3 nc3 nd3 (inF A B us vs m N j) ∧ W.cell? ⟨g, 0, none⟩ = some (.float .f64 nf3) ∧ W.cell? ⟨g, 1, none⟩ = some (.float .f64 na3) ∧ W.cell? ⟨g, 2, none⟩ = some (.float .f64 nb3) ∧ W.cell? ⟨g, 3, none⟩ = some (.float .f64 nc3) ∧ W.cell? ⟨g, 4, none⟩ = some (.float .f64 nd3)) (j + 1) w' := fun j W hj hI => by
      obtain ⟨hB, hA6, nf3, na3, nb3, nc3, nd3, hN, k0, k1, k2, k3, k4⟩ := hI
      have hjm : j < m := by unfold sdN at hj; rcases hk with ⟨rfl, rfl⟩ | ⟨rfl, rfl⟩ | ⟨rfl, h3⟩ <;> simp at hj <;> omega
      have hm0 : 0 < m := by omega
      refine (c2_n (N := inF A B us vs m N j) W ha hb_ (isP_self (hO j hjm).1 (hO j hjm).2) (isP_self (hO _ (Nat.mod_lt _ hm0)).1 (hO _ (Nat.mod_lt _ hm0)).2) hN k0 k1 k2 k3 k4 (hB.keep z0_0 (by omega)) (hB.keep z0_1 (by omega)) (hB.keep z1_0 (by omega)) (hB.keep z1_1 (by omega)) (by omega) (by omega) (fun o => (hB.2.2 _).trans ((B0.2 _).trans (fg o)))).mono ?_
      rintro e w' ⟨nf4, na4, nb4, nc4, nd4, hM, rfl, d0, d1, d2, d3, d4, hB2, hA2⟩
      exact ⟨rfl, hB.trans hB2, fun w6 h6 hg => hA2 w6 (hA6 w6 h6 hg) hg, nf4, na4, nb4, nc4, nd4, hM, d0, d1, d2, d3, d4⟩
  go_enter Try.func51, Try.ntmps51
  go_wp2_with (first | (go_at_call 50; refine (each2_any kb m hk _ _ _ rb b off cap us vs _ (fun j W => But g ((w.alloc (.cells #[.float .f64 ax, .float .f64 ay] 28)).alloc (.cells #[.float .f64 bx, .float .f64 b_y] 28)) W ∧ (∀ w6, Bel w6 ((w.alloc (.cells #[.float .f64 ax, .float .f64 ay] 28)).alloc (.cells #[.float .f64 bx, .float .f64 b_y] 28)) → w6.heap.size ≤ g → Bel w6 W) ∧ ∃ nf3 na3 nb3 nc3 nd3 : Nat, isN nf3 na3 nb3 nc3 nd3 (inF A B us vs m N j) ∧ W.cell? ⟨g, 0, none⟩ = some (.float .f64 nf3) ∧ W.cell? ⟨g, 1, none⟩ = some (.float .f64 na3) ∧ W.cell? ⟨g, 2, none⟩ = some (.float .f64 nb3) ∧ W.cell? ⟨g, 3, none⟩ = some (.float .f64 nc3) ∧ W.cell? ⟨g, 4, none⟩ = some (.float .f64 nd3)) (fun j W W' hI hb => ⟨hI.1.trans hb.but, fun w6 h6 hg => bl_trans (hI.2.1 w6 h6 hg) hb, by obtain ⟨_, _, nf3, na3, nb3, nc3, nd3, hN, k0, k1, k2, k3, k4⟩ := hI; exact ⟨nf3, na3, nb3, nc3, nd3, hN, keep hb k0, keep hb k1, keep hb k2, keep hb k3, keep hb k4⟩⟩) (fun j W hI => (hS.bel B0).but hI.1 hbg) hcap ⟨But.rfl' _ _, fun w6 h6 _ => h6, nf1, na1, nb1, nc1, nd1, hN1, g0, g1, g2, g3, g4⟩ hm STEP).mono ?_; rintro e w4 ⟨rfl, hI⟩))
  obtain ⟨hB, hA6, nf3, na3, nb3, nc3, nd3, hN, k0, k1, k2, k3, k4⟩ := hI
  refine bodyPost_end (v := .tuple #[]) (by simp [results, Try.results51, go_sem]) rfl ?_
  exact ⟨nf3, na3, nb3, nc3, nd3, hN, rfl, k0, k1, k2, k3, k4, B0.but.trans hB, fun w6 h6 hg => hA6 w6 (bl_trans h6 B0) hg⟩

set_option maxRecDepth 100000 in
set_option maxHeartbeats 2000000 in
theorem each33 (q1 q2 : Value) (r b off n cap : Nat) (xs ys : Nat → Nat) (w : World) (I : Nat → World → Prop) (hst : ∀ j W W', I j W → Bel W W' → I j W') (hsl : ∀ j W, I j W → Sl W b off n xs ys) (h3 : 3 ≤ n) (hn : n ≤ 4000000000) (hcap : n ≤ cap) (h0 : I 0 w)
    (step : ∀ j W, j < n → I j W → Calls Try.prog 51 #[.agg #[.float .f64 (xs j), .float .f64 (ys j)], .agg #[.float .f64 (xs ((j + 1) % n)), .float .f64 (ys ((j + 1) % n))], q1, q2] W fun e w' => e = .returned (.tuple #[]) ∧ I (j + 1) w') :
    Calls Try.prog 50 #[.agg #[.int .u8 3, .float .f64 r, .slice (some ⟨b, off, none⟩) n cap], .func (.func 51) #[] #[q1, q2]] w fun e w' => e = .returned (.tuple #[]) ∧ I n w' := by
  obtain ⟨l, hl⟩ : ∃ l, l + 1 = n := ⟨n - 1, by omega⟩
  have wl : IntKind.wrap .i64 ((n : Int) - 1) = (l : Int) := by rw [IntKind.wrap_i64]; omega
  have wl2 : (n : Int) - 1 = (l : Int) := by omega
  go_enter Try.func50, Try.ntmps50
  go_wp2
  go_loopw [21] (fun i' wr => ∃ j : Nat, j ≤ l ∧ i' = .int .i64 j ∧ I j wr) (fun i' _ => l - (intOf i').toNat)
  case atStart => exact ⟨0, by omega, rfl, hst 0 _ _ h0 (bl_alloc (bl_refl w) _ _)⟩
  case round =>
    obtain ⟨j, hj, rfl, hI⟩ := hrel
    by_cases hlt : j < l
    · have k1 : (j : Int) < (l : Int) := by omega
      have k2 : (j : Int) < (n : Int) := by omega
      have k3 : (j : Int) + 1 < (n : Int) := by omega
      have k4 : ((j + 1 : Nat) : Int) < (n : Int) := by omega
      have k5 : (0 : Int) ≤ (j : Int) + 1 := by omega
      have wj : IntKind.wrap .i64 ((j : Int) + 1) = ((j + 1 : Nat) : Int) := by rw [IntKind.wrap_i64]; omega
      have em : (j + 1) % n = j + 1 := Nat.mod_eq_of_lt (by omega)
      have S1 := step j
      rw [em] at S1
      have hlb := hsl j wr hI
      obtain ⟨a0, a1⟩ := hlb j (by omega)
      go_wp2
      refine wp_region_monoT 10 (fun i W v => match i with | 0 => v = .func (.func 51) #[] #[q1, q2] | 1 => v = .slice (some ⟨b, off, none⟩) n cap | 2 => v = .int .i64 (j : Int) | 3 => v = .pointer (some ⟨b, off + j * 2, none⟩) | 4 => v = .agg #[.float .f64 (xs j), .float .f64 (ys j)] | 5 => v = .slice (some ⟨b, off, none⟩) n cap | 6 => v = .int .i64 (j : Int) | 7 => v = .int .i64 ((j + 1 : Nat) : Int) | 8 => v = .pointer (some ⟨b, off + (j + 1) * 2, none⟩) | 9 => v = .agg #[.float .f64 (xs (j + 1)), .float .f64 (ys (j + 1))] | _ => False) ?A_wt (by kernel_rfl) (by kernel_rfl) ?hA_wt ?hmo_wt ?hq_wt [10] rfl ?ht_wt
      case hA_wt =>
        intro s
        simp only [putL, dstO, Act.put, List.getElem?_toArray, List.getElem?_cons_zero, List.getElem?_cons_succ, Option.bind_some, List.setIfInBounds_toArray, List.set_cons_zero, List.set_cons_succ, if_true]
        all_goals exact rfl
      case hmo_wt =>
        intro i W W' v hi hb h
        rcases (show i = 0 ∨ i = 1 ∨ i = 2 ∨ i = 3 ∨ i = 4 ∨ i = 5 ∨ i = 6 ∨ i = 7 ∨ i = 8 ∨ i = 9 by omega) with rfl | rfl | rfl | rfl | rfl | rfl | rfl | rfl | rfl | rfl
        all_goals first | exact h
      case hq_wt =>
        intro i o hi ho s W hs hb K hK
        have hs9 := hsl j W (hst j _ W hI hb); obtain ⟨a0, a1⟩ := hs9 j (by omega); obtain ⟨d0, d1⟩ := hs9 (j + 1) (by omega); have lb := World.block_lt_of_cell? _ _ a0; simp only at lb
        rcases (show i = 0 ∨ i = 1 ∨ i = 2 ∨ i = 3 ∨ i = 4 ∨ i = 5 ∨ i = 6 ∨ i = 7 ∨ i = 8 ∨ i = 9 by omega) with rfl | rfl | rfl | rfl | rfl | rfl | rfl | rfl | rfl | rfl
        · cases ho
          simp only [Act.put, List.setIfInBounds_toArray, List.set_cons_zero, List.set_cons_succ] at hK
          clear hs
          go_simp
          all_goals first | exact hK.out _ _ rfl (bl_refl _) | exact hK.out _ _ rfl (by assumption) | exact hK.out _ _ (by assumption) (by assumption)
        · cases ho
          simp only [Act.put, List.setIfInBounds_toArray, List.set_cons_zero, List.set_cons_succ] at hK
          clear hs
          go_simp
          all_goals first | exact hK.out _ _ rfl (bl_refl _) | exact hK.out _ _ rfl (by assumption) | exact hK.out _ _ (by assumption) (by assumption)
        · cases ho
          simp only [Act.put, List.setIfInBounds_toArray, List.set_cons_zero, List.set_cons_succ] at hK
          clear hs
          go_simp
          all_goals first | exact hK.out _ _ rfl (bl_refl _) | exact hK.out _ _ rfl (by assumption) | exact hK.out _ _ (by assumption) (by assumption)
        · cases ho
          have e1 : s 1 = _ := hs 1 (by decide) (by kernel_rfl)
          have e2 : s 2 = _ := hs 2 (by decide) (by kernel_rfl)
          simp only [e1, e2] at hK ⊢
          simp only [Act.put, List.setIfInBounds_toArray, List.set_cons_zero, List.set_cons_succ] at hK
          clear hs
          go_simp
          all_goals first | exact hK.out _ _ rfl (bl_refl _) | exact hK.out _ _ rfl (by assumption) | exact hK.out _ _ (by assumption) (by assumption)
        · cases ho
          have e3 : s 3 = _ := hs 3 (by decide) (by kernel_rfl)
          simp only [e3] at hK ⊢
          simp only [Act.put, List.setIfInBounds_toArray, List.set_cons_zero, List.set_cons_succ] at hK
          clear hs
          go_simp
          all_goals first | exact hK.out _ _ rfl (bl_refl _) | exact hK.out _ _ rfl (by assumption) | exact hK.out _ _ (by assumption) (by assumption)
        · cases ho
          simp only [Act.put, List.setIfInBounds_toArray, List.set_cons_zero, List.set_cons_succ] at hK
          clear hs
          go_simp
          all_goals first | exact hK.out _ _ rfl (bl_refl _) | exact hK.out _ _ rfl (by assumption) | exact hK.out _ _ (by assumption) (by assumption)
        · cases ho
          simp only [Act.put, List.setIfInBounds_toArray, List.set_cons_zero, List.set_cons_succ] at hK
          clear hs
          go_simp
          all_goals first | exact hK.out _ _ rfl (bl_refl _) | exact hK.out _ _ rfl (by assumption) | exact hK.out _ _ (by assumption) (by assumption)
        · cases ho
          have e6 : s 6 = _ := hs 6 (by decide) (by kernel_rfl)
          simp only [e6] at hK ⊢
          simp only [Act.put, List.setIfInBounds_toArray, List.set_cons_zero, List.set_cons_succ] at hK
          clear hs
          go_simp
          all_goals first | exact hK.out _ _ rfl (bl_refl _) | exact hK.out _ _ rfl (by assumption) | exact hK.out _ _ (by assumption) (by assumption)
        · cases ho
          have e5 : s 5 = _ := hs 5 (by decide) (by kernel_rfl)
          have e7 : s 7 = _ := hs 7 (by decide) (by kernel_rfl)
          simp only [e5, e7] at hK ⊢
          simp only [Act.put, List.setIfInBounds_toArray, List.set_cons_zero, List.set_cons_succ] at hK
          clear hs
          go_simp
          all_goals first | exact hK.out _ _ rfl (bl_refl _) | exact hK.out _ _ rfl (by assumption) | exact hK.out _ _ (by assumption) (by assumption)
        · cases ho
          have e8 : s 8 = _ := hs 8 (by decide) (by kernel_rfl)
          simp only [e8] at hK ⊢
          simp only [Act.put, List.setIfInBounds_toArray, List.set_cons_zero, List.set_cons_succ] at hK
          clear hs
          go_simp
          all_goals first | exact hK.out _ _ rfl (bl_refl _) | exact hK.out _ _ rfl (by assumption) | exact hK.out _ _ (by assumption) (by assumption)
      case ht_wt =>
        intro s W hs hb
        have e0 : s 0 = _ := hs 0 (by decide)
        have e1 : s 1 = _ := hs 1 (by decide)
        have e2 : s 2 = _ := hs 2 (by decide)
        have e3 : s 3 = _ := hs 3 (by decide)
        have e4 : s 4 = _ := hs 4 (by decide)
        have e5 : s 5 = _ := hs 5 (by decide)
        have e6 : s 6 = _ := hs 6 (by decide)
        have e7 : s 7 = _ := hs 7 (by decide)
        have e8 : s 8 = _ := hs 8 (by decide)
        have e9 : s 9 = _ := hs 9 (by decide)
        simp only [e0, e1, e2, e3, e4, e5, e6, e7, e8, e9]
        clear hs e0 e1 e2 e3 e4 e5 e6 e7 e8 e9
        refine tail_step rfl (fun K hK => ?_)
        go_simp
        go_wp2_with (first | (go_at_call 51; refine (S1 W (by omega) (hst j _ W hI hb)).mono ?_; rintro e w2 ⟨rfl, hI2⟩))
        refine hK.out _ _ ?_
        clear hK K
        refine tail_end ?_
        go_wp2
        exact ⟨⟨j + 1, by omega, by go_num, hI2⟩, by simp [intOf]; omega⟩
    · obtain rfl : j = l := by omega
      have k1 : ¬ (j : Int) < (j : Int) := by omega
      have k2 : (j : Int) < (n : Int) := by omega
      have k3 : (0 : Int) < (n : Int) := by omega
      have k6 : 0 < n := by omega
      have k7 : n ≠ 0 := by omega
      have em : (j + 1) % n = 0 := by rw [hl]; exact Nat.mod_self n
      have S2 := step j
      rw [em, hl] at S2
      have hlb := hsl j wr hI
      obtain ⟨a0, a1⟩ := hlb j (by omega)
      go_wp2
      refine wp_region_monoT 8 (fun i W v => match i with | 0 => v = .func (.func 51) #[] #[q1, q2] | 1 => v = .slice (some ⟨b, off, none⟩) n cap | 2 => v = .int .i64 (j : Int) | 3 => v = .pointer (some ⟨b, off + j * 2, none⟩) | 4 => v = .agg #[.float .f64 (xs j), .float .f64 (ys j)] | 5 => v = .slice (some ⟨b, off, none⟩) n cap | 6 => v = .pointer (some ⟨b, off, none⟩) | 7 => v = .agg #[.float .f64 (xs 0), .float .f64 (ys 0)] | _ => False) ?A_wu (by kernel_rfl) (by kernel_rfl) ?hA_wu ?hmo_wu ?hq_wu [8] rfl ?ht_wu
      case hA_wu =>
        intro s
        simp only [putL, dstO, Act.put, List.getElem?_toArray, List.getElem?_cons_zero, List.getElem?_cons_succ, Option.bind_some, List.setIfInBounds_toArray, List.set_cons_zero, List.set_cons_succ, if_true]
        all_goals exact rfl
      case hmo_wu =>
        intro i W W' v hi hb h
        rcases (show i = 0 ∨ i = 1 ∨ i = 2 ∨ i = 3 ∨ i = 4 ∨ i = 5 ∨ i = 6 ∨ i = 7 by omega) with rfl | rfl | rfl | rfl | rfl | rfl | rfl | rfl
        all_goals first | exact h
      case hq_wu =>
        intro i o hi ho s W hs hb K hK
        have hs9 := hsl _ W (hst _ _ W hI hb); obtain ⟨a0, a1⟩ := hs9 (j) (by omega); obtain ⟨d0, d1⟩ := hs9 0 (by omega); simp only [Nat.zero_mul, Nat.add_zero] at d0 d1; have lb := World.block_lt_of_cell? _ _ a0; simp only at lb
        rcases (show i = 0 ∨ i = 1 ∨ i = 2 ∨ i = 3 ∨ i = 4 ∨ i = 5 ∨ i = 6 ∨ i = 7 by omega) with rfl | rfl | rfl | rfl | rfl | rfl | rfl | rfl
        · cases ho
          simp only [Act.put, List.setIfInBounds_toArray, List.set_cons_zero, List.set_cons_succ] at hK
          clear hs
          go_simp
          all_goals first | exact hK.out _ _ rfl (bl_refl _) | exact hK.out _ _ rfl (by assumption) | exact hK.out _ _ (by assumption) (by assumption)
        · cases ho
          simp only [Act.put, List.setIfInBounds_toArray, List.set_cons_zero, List.set_cons_succ] at hK
          clear hs
          go_simp
          all_goals first | exact hK.out _ _ rfl (bl_refl _) | exact hK.out _ _ rfl (by assumption) | exact hK.out _ _ (by assumption) (by assumption)
        · cases ho
          simp only [Act.put, List.setIfInBounds_toArray, List.set_cons_zero, List.set_cons_succ] at hK
          clear hs
          go_simp
          all_goals first | exact hK.out _ _ rfl (bl_refl _) | exact hK.out _ _ rfl (by assumption) | exact hK.out _ _ (by assumption) (by assumption)
        · cases ho
          have e1 : s 1 = _ := hs 1 (by decide) (by kernel_rfl)
          have e2 : s 2 = _ := hs 2 (by decide) (by kernel_rfl)
          simp only [e1, e2] at hK ⊢
          simp only [Act.put, List.setIfInBounds_toArray, List.set_cons_zero, List.set_cons_succ] at hK
          clear hs
          go_simp
          all_goals first | exact hK.out _ _ rfl (bl_refl _) | exact hK.out _ _ rfl (by assumption) | exact hK.out _ _ (by assumption) (by assumption)
        · cases ho
          have e3 : s 3 = _ := hs 3 (by decide) (by kernel_rfl)
          simp only [e3] at hK ⊢
          simp only [Act.put, List.setIfInBounds_toArray, List.set_cons_zero, List.set_cons_succ] at hK
          clear hs
          go_simp
          all_goals first | exact hK.out _ _ rfl (bl_refl _) | exact hK.out _ _ rfl (by assumption) | exact hK.out _ _ (by assumption) (by assumption)
        · cases ho
          simp only [Act.put, List.setIfInBounds_toArray, List.set_cons_zero, List.set_cons_succ] at hK
          clear hs
          go_simp
          all_goals first | exact hK.out _ _ rfl (bl_refl _) | exact hK.out _ _ rfl (by assumption) | exact hK.out _ _ (by assumption) (by assumption)
        · cases ho
          have e5 : s 5 = _ := hs 5 (by decide) (by kernel_rfl)
          simp only [e5] at hK ⊢
          simp only [Act.put, List.setIfInBounds_toArray, List.set_cons_zero, List.set_cons_succ] at hK
          clear hs
          go_simp
          all_goals first | exact hK.out _ _ rfl (bl_refl _) | exact hK.out _ _ rfl (by assumption) | exact hK.out _ _ (by assumption) (by assumption)
        · cases ho
          have e6 : s 6 = _ := hs 6 (by decide) (by kernel_rfl)
          simp only [e6] at hK ⊢
          simp only [Act.put, List.setIfInBounds_toArray, List.set_cons_zero, List.set_cons_succ] at hK
          clear hs
          go_simp
          all_goals first | exact hK.out _ _ rfl (bl_refl _) | exact hK.out _ _ rfl (by assumption) | exact hK.out _ _ (by assumption) (by assumption)
      case ht_wu =>
        intro s W hs hb
        have e0 : s 0 = _ := hs 0 (by decide)
        have e1 : s 1 = _ := hs 1 (by decide)
        have e2 : s 2 = _ := hs 2 (by decide)
        have e3 : s 3 = _ := hs 3 (by decide)
        have e4 : s 4 = _ := hs 4 (by decide)
        have e5 : s 5 = _ := hs 5 (by decide)
        have e6 : s 6 = _ := hs 6 (by decide)
        have e7 : s 7 = _ := hs 7 (by decide)
        simp only [e0, e1, e2, e3, e4, e5, e6, e7]
        clear hs e0 e1 e2 e3 e4 e5 e6 e7
        refine tail_step rfl (fun K hK => ?_)
        go_simp
        go_wp2_with (first | (go_at_call 51; refine (S2 W (by omega) (hst j _ W hI hb)).mono ?_; rintro e w2 ⟨rfl, hI2⟩))
        refine hK.out _ _ ?_
        clear hK K
        refine tail_end ?_
        go_wp2
        refine bodyPost_end (v := .tuple #[]) (by simp [results, Try.results50, go_sem]) rfl ?_
        exact ⟨rfl, hI2⟩

set_option maxRecDepth 100000 in
set_option maxHeartbeats 2000000 in
theorem each31 (q1 q2 : Value) (r b off cap : Nat) (xs ys : Nat → Nat) (w : World) (I : Nat → World → Prop) (hst : ∀ j W W', I j W → Bel W W' → I j W') (hsl : ∀ j W, I j W → Sl W b off 1 xs ys) (hcap : 1 ≤ cap) (h0 : I 0 w) (step : ∀ j W, j < 1 → I j W → Calls Try.prog 51 #[.agg #[.float .f64 (xs j), .float .f64 (ys j)], .agg #[.float .f64 (xs ((j + 1) % 1)), .float .f64 (ys ((j + 1) % 1))], q1, q2] W fun e w' => e = .returned (.tuple #[]) ∧ I (j + 1) w') : Calls Try.prog 50 #[.agg #[.int .u8 1, .float .f64 r, .slice (some ⟨b, off, none⟩) 1 cap], .func (.func 51) #[] #[q1, q2]] w fun e w' => e = .returned (.tuple #[]) ∧ I 1 w' := by
  obtain ⟨e0, e1⟩ := hsl 0 w h0 0 (by omega)
  have lw := World.block_lt_of_cell? _ _ e0
  simp only at lw
  go_enter Try.func50, Try.ntmps50
  go_wp2
  · refine wp_region_monoT 8 (fun i W v => match i with | 0 => v = .func (.func 51) #[] #[q1, q2] | 1 => v = .slice (some ⟨b, off, none⟩) 1 cap | 2 => v = .int .i64 0 | 3 => v = .pointer (some ⟨b, off, none⟩) | 4 => v = .agg #[.float .f64 (xs 0), .float .f64 (ys 0)] | 5 => v = .slice (some ⟨b, off, none⟩) 1 cap | 6 => v = .pointer (some ⟨b, off, none⟩) | 7 => v = .agg #[.float .f64 (xs 0), .float .f64 (ys 0)] | _ => False) ?A_wt (by kernel_rfl) (by kernel_rfl) ?hA_wt ?hmo_wt ?hq_wt [8] rfl ?ht_wt
    case hA_wt =>
      intro s
      simp only [putL, dstO, Act.put, List.getElem?_toArray, List.getElem?_cons_zero, List.getElem?_cons_succ, Option.bind_some, List.setIfInBounds_toArray, List.set_cons_zero, List.set_cons_succ, if_true]
      all_goals exact rfl
    case hmo_wt =>
      intro i W W' v hi hb h
      rcases (show i = 0 ∨ i = 1 ∨ i = 2 ∨ i = 3 ∨ i = 4 ∨ i = 5 ∨ i = 6 ∨ i = 7 by omega) with rfl | rfl | rfl | rfl | rfl | rfl | rfl | rfl
      all_goals first | exact h
    case hq_wt =>
      intro i o hi ho s W hs hb K hK
      have hs9 := hsl 0 W (hst 0 _ W h0 (bl_trans (bl_alloc (bl_refl w) _ _) hb)); obtain ⟨a0, a1⟩ := hs9 0 (by omega); simp only [Nat.zero_mul, Nat.add_zero] at a0 a1; have lb := World.block_lt_of_cell? _ _ a0; simp only at lb
      rcases (show i = 0 ∨ i = 1 ∨ i = 2 ∨ i = 3 ∨ i = 4 ∨ i = 5 ∨ i = 6 ∨ i = 7 by omega) with rfl | rfl | rfl | rfl | rfl | rfl | rfl | rfl
      · cases ho
        simp only [Act.put, List.setIfInBounds_toArray, List.set_cons_zero, List.set_cons_succ] at hK
        clear hs
        go_simp
        all_goals first | exact hK.out _ _ rfl (bl_refl _) | exact hK.out _ _ rfl (by assumption) | exact hK.out _ _ (by assumption) (by assumption)
      · cases ho
        simp only [Act.put, List.setIfInBounds_toArray, List.set_cons_zero, List.set_cons_succ] at hK
        clear hs
        go_simp
        all_goals first | exact hK.out _ _ rfl (bl_refl _) | exact hK.out _ _ rfl (by assumption) | exact hK.out _ _ (by assumption) (by assumption)
      · cases ho
        simp only [Act.put, List.setIfInBounds_toArray, List.set_cons_zero, List.set_cons_succ] at hK
        clear hs
        go_simp
        all_goals first | exact hK.out _ _ rfl (bl_refl _) | exact hK.out _ _ rfl (by assumption) | exact hK.out _ _ (by assumption) (by assumption)
      · cases ho
        have e1 : s 1 = _ := hs 1 (by decide) (by kernel_rfl)
        have e2 : s 2 = _ := hs 2 (by decide) (by kernel_rfl)
        simp only [e1, e2] at hK ⊢
        simp only [Act.put, List.setIfInBounds_toArray, List.set_cons_zero, List.set_cons_succ] at hK
        clear hs
        go_simp
        all_goals first | exact hK.out _ _ rfl (bl_refl _) | exact hK.out _ _ rfl (by assumption) | exact hK.out _ _ (by assumption) (by assumption)
      · cases ho
        have e3 : s 3 = _ := hs 3 (by decide) (by kernel_rfl)
        simp only [e3] at hK ⊢
        simp only [Act.put, List.setIfInBounds_toArray, List.set_cons_zero, List.set_cons_succ] at hK
        clear hs
        go_simp
        all_goals first | exact hK.out _ _ rfl (bl_refl _) | exact hK.out _ _ rfl (by assumption) | exact hK.out _ _ (by assumption) (by assumption)
      · cases ho
        simp only [Act.put, List.setIfInBounds_toArray, List.set_cons_zero, List.set_cons_succ] at hK
        clear hs
        go_simp
        all_goals first | exact hK.out _ _ rfl (bl_refl _) | exact hK.out _ _ rfl (by assumption) | exact hK.out _ _ (by assumption) (by assumption)
      · cases ho
        have e5 : s 5 = _ := hs 5 (by decide) (by kernel_rfl)
        simp only [e5] at hK ⊢
        simp only [Act.put, List.setIfInBounds_toArray, List.set_cons_zero, List.set_cons_succ] at hK
        clear hs
        go_simp
        all_goals first | exact hK.out _ _ rfl (bl_refl _) | exact hK.out _ _ rfl (by assumption) | exact hK.out _ _ (by assumption) (by assumption)
      · cases ho
        have e6 : s 6 = _ := hs 6 (by decide) (by kernel_rfl)
        simp only [e6] at hK ⊢
        simp only [Act.put, List.setIfInBounds_toArray, List.set_cons_zero, List.set_cons_succ] at hK
        clear hs
        go_simp
        all_goals first | exact hK.out _ _ rfl (bl_refl _) | exact hK.out _ _ rfl (by assumption) | exact hK.out _ _ (by assumption) (by assumption)
    case ht_wt =>
      intro s W hs hb
      have e0 : s 0 = _ := hs 0 (by decide)
      have e1 : s 1 = _ := hs 1 (by decide)
      have e2 : s 2 = _ := hs 2 (by decide)
      have e3 : s 3 = _ := hs 3 (by decide)
      have e4 : s 4 = _ := hs 4 (by decide)
      have e5 : s 5 = _ := hs 5 (by decide)
      have e6 : s 6 = _ := hs 6 (by decide)
      have e7 : s 7 = _ := hs 7 (by decide)
      simp only [e0, e1, e2, e3, e4, e5, e6, e7]
      clear hs e0 e1 e2 e3 e4 e5 e6 e7
      refine tail_step rfl (fun K hK => ?_)
      go_simp
      go_wp2_with (first | (go_at_call 51; refine (step 0 W (by omega) (hst 0 _ W h0 (bl_trans (bl_alloc (bl_refl w) _ _) hb))).mono ?_; rintro e w2 ⟨rfl, hI2⟩))
      refine hK.out _ _ ?_
      clear hK K
      refine tail_end ?_
      go_wp2
      refine bodyPost_end (v := .tuple #[]) (by simp [results, Try.results50, go_sem]) rfl ?_
      exact ⟨rfl, hI2⟩
set_option maxRecDepth 100000 in
set_option maxHeartbeats 2000000 in
theorem each32 (q1 q2 : Value) (r b off cap : Nat) (xs ys : Nat → Nat) (w : World) (I : Nat → World → Prop) (hst : ∀ j W W', I j W → Bel W W' → I j W') (hsl : ∀ j W, I j W → Sl W b off 2 xs ys) (hcap : 2 ≤ cap) (h0 : I 0 w) (step : ∀ j W, j < 1 → I j W → Calls Try.prog 51 #[.agg #[.float .f64 (xs j), .float .f64 (ys j)], .agg #[.float .f64 (xs ((j + 1) % 2)), .float .f64 (ys ((j + 1) % 2))], q1, q2] W fun e w' => e = .returned (.tuple #[]) ∧ I (j + 1) w') : Calls Try.prog 50 #[.agg #[.int .u8 2, .float .f64 r, .slice (some ⟨b, off, none⟩) 2 cap], .func (.func 51) #[] #[q1, q2]] w fun e w' => e = .returned (.tuple #[]) ∧ I 1 w' := by
  obtain ⟨e0, e1⟩ := hsl 0 w h0 0 (by omega)
  have lw := World.block_lt_of_cell? _ _ e0
  simp only at lw
  go_enter Try.func50, Try.ntmps50
  go_wp2
  · refine wp_region_monoT 7 (fun i W v => match i with | 0 => v = .func (.func 51) #[] #[q1, q2] | 1 => v = .slice (some ⟨b, off, none⟩) 2 cap | 2 => v = .pointer (some ⟨b, off, none⟩) | 3 => v = .agg #[.float .f64 (xs 0), .float .f64 (ys 0)] | 4 => v = .slice (some ⟨b, off, none⟩) 2 cap | 5 => v = .pointer (some ⟨b, off + 2, none⟩) | 6 => v = .agg #[.float .f64 (xs 1), .float .f64 (ys 1)] | _ => False) ?A_wt (by kernel_rfl) (by kernel_rfl) ?hA_wt ?hmo_wt ?hq_wt [7] rfl ?ht_wt
    case hA_wt =>
      intro s
      simp only [putL, dstO, Act.put, List.getElem?_toArray, List.getElem?_cons_zero, List.getElem?_cons_succ, Option.bind_some, List.setIfInBounds_toArray, List.set_cons_zero, List.set_cons_succ, if_true]
      all_goals exact rfl
    case hmo_wt =>
      intro i W W' v hi hb h
      rcases (show i = 0 ∨ i = 1 ∨ i = 2 ∨ i = 3 ∨ i = 4 ∨ i = 5 ∨ i = 6 by omega) with rfl | rfl | rfl | rfl | rfl | rfl | rfl
      all_goals first | exact h
    case hq_wt =>
      intro i o hi ho s W hs hb K hK
      have hs9 := hsl 0 W (hst 0 _ W h0 (bl_trans (bl_alloc (bl_refl w) _ _) hb)); obtain ⟨a0, a1⟩ := hs9 0 (by omega); obtain ⟨d0, d1⟩ := hs9 1 (by omega); simp only [Nat.zero_mul, Nat.add_zero, Nat.one_mul] at a0 a1 d0 d1; have lb := World.block_lt_of_cell? _ _ a0; simp only at lb
      rcases (show i = 0 ∨ i = 1 ∨ i = 2 ∨ i = 3 ∨ i = 4 ∨ i = 5 ∨ i = 6 by omega) with rfl | rfl | rfl | rfl | rfl | rfl | rfl
      · cases ho
        simp only [Act.put, List.setIfInBounds_toArray, List.set_cons_zero, List.set_cons_succ] at hK
        clear hs
        go_simp
        all_goals first | exact hK.out _ _ rfl (bl_refl _) | exact hK.out _ _ rfl (by assumption) | exact hK.out _ _ (by assumption) (by assumption)
      · cases ho
        simp only [Act.put, List.setIfInBounds_toArray, List.set_cons_zero, List.set_cons_succ] at hK
        clear hs
        go_simp
        all_goals first | exact hK.out _ _ rfl (bl_refl _) | exact hK.out _ _ rfl (by assumption) | exact hK.out _ _ (by assumption) (by assumption)
      · cases ho
        have e1 : s 1 = _ := hs 1 (by decide) (by kernel_rfl)
        simp only [e1] at hK ⊢
        simp only [Act.put, List.setIfInBounds_toArray, List.set_cons_zero, List.set_cons_succ] at hK
        clear hs
        go_simp
        all_goals first | exact hK.out _ _ rfl (bl_refl _) | exact hK.out _ _ rfl (by assumption) | exact hK.out _ _ (by assumption) (by assumption)
      · cases ho
        have e2 : s 2 = _ := hs 2 (by decide) (by kernel_rfl)
        simp only [e2] at hK ⊢
        simp only [Act.put, List.setIfInBounds_toArray, List.set_cons_zero, List.set_cons_succ] at hK
        clear hs
        go_simp
        all_goals first | exact hK.out _ _ rfl (bl_refl _) | exact hK.out _ _ rfl (by assumption) | exact hK.out _ _ (by assumption) (by assumption)
      · cases ho
        simp only [Act.put, List.setIfInBounds_toArray, List.set_cons_zero, List.set_cons_succ] at hK
        clear hs
        go_simp
        all_goals first | exact hK.out _ _ rfl (bl_refl _) | exact hK.out _ _ rfl (by assumption) | exact hK.out _ _ (by assumption) (by assumption)
      · cases ho
        have e4 : s 4 = _ := hs 4 (by decide) (by kernel_rfl)
        simp only [e4] at hK ⊢
        simp only [Act.put, List.setIfInBounds_toArray, List.set_cons_zero, List.set_cons_succ] at hK
        clear hs
        go_simp
        all_goals first | exact hK.out _ _ rfl (bl_refl _) | exact hK.out _ _ rfl (by assumption) | exact hK.out _ _ (by assumption) (by assumption)
      · cases ho
        have e5 : s 5 = _ := hs 5 (by decide) (by kernel_rfl)
        simp only [e5] at hK ⊢
        simp only [Act.put, List.setIfInBounds_toArray, List.set_cons_zero, List.set_cons_succ] at hK
        clear hs
        go_simp
        all_goals first | exact hK.out _ _ rfl (bl_refl _) | exact hK.out _ _ rfl (by assumption) | exact hK.out _ _ (by assumption) (by assumption)
    case ht_wt =>
      intro s W hs hb
      have e0 : s 0 = _ := hs 0 (by decide)
      have e1 : s 1 = _ := hs 1 (by decide)
      have e2 : s 2 = _ := hs 2 (by decide)
      have e3 : s 3 = _ := hs 3 (by decide)
      have e4 : s 4 = _ := hs 4 (by decide)
      have e5 : s 5 = _ := hs 5 (by decide)
      have e6 : s 6 = _ := hs 6 (by decide)
      simp only [e0, e1, e2, e3, e4, e5, e6]
      clear hs e0 e1 e2 e3 e4 e5 e6
      refine tail_step rfl (fun K hK => ?_)
      go_simp
      go_wp2_with (first | (go_at_call 51; refine (step 0 W (by omega) (hst 0 _ W h0 (bl_trans (bl_alloc (bl_refl w) _ _) hb))).mono ?_; rintro e w2 ⟨rfl, hI2⟩))
      refine hK.out _ _ ?_
      clear hK K
      refine tail_end ?_
      go_wp2
      refine bodyPost_end (v := .tuple #[]) (by simp [results, Try.results50, go_sem]) rfl ?_
      exact ⟨rfl, hI2⟩
theorem each3_any (k : Int) (n : Nat) (hk : Kd k n) (q1 q2 : Value) (r b off cap : Nat) (xs ys : Nat → Nat) (w : World) (I : Nat → World → Prop) (hst : ∀ j W W', I j W → Bel W W' → I j W') (hsl : ∀ j W, I j W → Sl W b off n xs ys) (hcap : n ≤ cap) (h0 : I 0 w) (hn : n ≤ 4000000000) (step : ∀ j W, j < sdN k n → I j W → Calls Try.prog 51 #[.agg #[.float .f64 (xs j), .float .f64 (ys j)], .agg #[.float .f64 (xs ((j + 1) % n)), .float .f64 (ys ((j + 1) % n))], q1, q2] W fun e w' => e = .returned (.tuple #[]) ∧ I (j + 1) w') : Calls Try.prog 50 #[.agg #[.int .u8 k, .float .f64 r, .slice (some ⟨b, off, none⟩) n cap], .func (.func 51) #[] #[q1, q2]] w fun e w' => e = .returned (.tuple #[]) ∧ I (sdN k n) w' := by
  rcases hk with ⟨rfl, rfl⟩ | ⟨rfl, rfl⟩ | ⟨rfl, h3⟩
  · exact each31 q1 q2 r b off cap xs ys w I hst hsl hcap h0 step
  · exact each32 q1 q2 r b off cap xs ys w I hst hsl hcap h0 step
  · exact each33 q1 q2 r b off n cap xs ys w I hst hsl h3 hn hcap h0 step

end Go.Proofs.Ythbdckjfekimdab
