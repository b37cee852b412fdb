/-
  What each function of package poly answers, and what the reference of its chapter answers: one contract a function, for every float: the answer stands in the relation of its formula to what was given; of the memory that was there nothing has turned.
-/
import Derived.Test.YtpedpgpgcmhnoabVec
import Derived.Test.YtpedpgpgcmhnoabNd
import Derived.Test.YtpedpgpgcmhnoabLsb
import Derived.Test.YtpedpgpgcmhnoabRx
import Derived.Below
import Derived.WalkKit
import Derived.WalkLawsBesides
import Derived.WalkSpells
import Derived.ProofKit
import Derived.OpenShut
import Derived.Deep.RegionHeld3
namespace Go.Proofs.Ytpedpgpgcmhnoab
open Go.ChangeShapes Go.WideShapes Go.ChangeAt Go.RowKit
set_option linter.unusedVariables false
set_option linter.unusedSimpArgs false


set_option maxRecDepth 100000 in
set_option maxHeartbeats 2000000 in
theorem poly1_n {c g k h j sd ax ay bx b_y px py nf1 na1 nb1 nc1 nd1 : Nat} {A B P : Vp} {N : Nr} (w : World) (ha : isP ax ay A) (hb_ : isP bx b_y B) (hp : isP px py P) (hN1 : isN nf1 na1 nb1 nc1 nd1 (N)) (p0 : w.cell? ⟨c, 0, none⟩ = some (.float .f64 px)) (p1 : w.cell? ⟨c, 1, none⟩ = some (.float .f64 py)) (g0 : w.cell? ⟨g, 0, none⟩ = some (.float .f64 nf1)) (g1 : w.cell? ⟨g, 1, none⟩ = some (.float .f64 na1)) (g2 : w.cell? ⟨g, 2, none⟩ = some (.float .f64 nb1)) (g3 : w.cell? ⟨g, 3, none⟩ = some (.float .f64 nc1)) (g4 : w.cell? ⟨g, 4, none⟩ = some (.float .f64 nd1)) (k0 : w.cell? ⟨k, 0, none⟩ = some (.int .i64 (j : Int))) (h0 : w.cell? ⟨h, 0, none⟩ = some (.int .i64 (sd : Int))) (n1 : g ≠ k) (n2 : g ≠ h) (n3 : k ≠ h) (f1 : ∀ o, w.frozen? ⟨g, o, none⟩ = false) (f2 : ∀ o, w.frozen? ⟨k, o, none⟩ = false) (f3 : ∀ o, w.frozen? ⟨h, o, none⟩ = false) (hj : j < 4000000000) :
    Calls Try.prog 50 #[.agg #[.float .f64 ax, .float .f64 ay], .agg #[.float .f64 bx, .float .f64 b_y], .pointer (some ⟨c, 0, none⟩), .pointer (some ⟨g, 0, none⟩), .pointer (some ⟨k, 0, none⟩), .pointer (some ⟨h, 0, none⟩)] w fun e w' => ∃ nf2 na2 nb2 nc2 nd2, ∃ sd2 : Nat, isN nf2 na2 nb2 nc2 nd2 (pkF (ltK .f64 (apN (ptF A B P).1 P).1 N.1) (apN (ptF A B P).1 P) N) ∧ sd2 = pkF (ltK .f64 (apN (ptF A B P).1 P).1 N.1) j sd ∧ e = .returned (.tuple #[]) ∧ w'.cell? ⟨g, 0, none⟩ = some (.float .f64 nf2) ∧ w'.cell? ⟨g, 1, none⟩ = some (.float .f64 na2) ∧ w'.cell? ⟨g, 2, none⟩ = some (.float .f64 nb2) ∧ w'.cell? ⟨g, 3, none⟩ = some (.float .f64 nc2) ∧ w'.cell? ⟨g, 4, none⟩ = some (.float .f64 nd2) ∧ w'.cell? ⟨k, 0, none⟩ = some (.int .i64 ((j + 1 : Nat) : Int)) ∧ w'.cell? ⟨h, 0, none⟩ = some (.int .i64 (sd2 : Int)) ∧ ∀ w6, Bel w6 w → w6.heap.size ≤ g → w6.heap.size ≤ k → w6.heap.size ≤ h → Bel w6 w' := by
  have c2 := cmp_lt .f64
  have wj : IntKind.wrap .i64 ((j : Int) + 1) = ((j + 1 : Nat) : Int) := by rw [IntKind.wrap_i64]; omega
  have z0_0 : (w.alloc (.cells #[.float .f64 ax, .float .f64 ay] 24)).cell? ⟨w.heap.size, 0, none⟩ = some (.float .f64 ax) := by rw [World.cell?_alloc_new]; rfl
  replace z0_0 := up_alloc (o := .cells #[.float .f64 bx, .float .f64 b_y] 24) z0_0
  have z0_1 : (w.alloc (.cells #[.float .f64 ax, .float .f64 ay] 24)).cell? ⟨w.heap.size, 1, none⟩ = some (.float .f64 ay) := by rw [World.cell?_alloc_new]; rfl
  replace z0_1 := up_alloc (o := .cells #[.float .f64 bx, .float .f64 b_y] 24) z0_1
  have z1_0 : ((w.alloc (.cells #[.float .f64 ax, .float .f64 ay] 24)).alloc (.cells #[.float .f64 bx, .float .f64 b_y] 24)).cell? ⟨w.heap.size + 1, 0, none⟩ = some (.float .f64 bx) := by rw [← (show (w.alloc (.cells #[.float .f64 ax, .float .f64 ay] 24)).heap.size = w.heap.size + 1 by simp only [World.size_alloc]), World.cell?_alloc_new]; rfl
  have z1_1 : ((w.alloc (.cells #[.float .f64 ax, .float .f64 ay] 24)).alloc (.cells #[.float .f64 bx, .float .f64 b_y] 24)).cell? ⟨w.heap.size + 1, 1, none⟩ = some (.float .f64 b_y) := by rw [← (show (w.alloc (.cells #[.float .f64 ax, .float .f64 ay] 24)).heap.size = w.heap.size + 1 by simp only [World.size_alloc]), World.cell?_alloc_new]; rfl
  have B0 : Bel w ((w.alloc (.cells #[.float .f64 ax, .float .f64 ay] 24)).alloc (.cells #[.float .f64 bx, .float .f64 b_y] 24)) := bl_alloc (bl_alloc (bl_refl w) _ _) _ _
  replace p0 := keep B0 p0
  replace p1 := keep B0 p1
  replace g0 := keep B0 g0
  replace g1 := keep B0 g1
  replace g2 := keep B0 g2
  replace g3 := keep B0 g3
  replace g4 := keep B0 g4
  replace k0 := keep B0 k0
  replace h0 := keep B0 h0
  go_enter Try.func50, Try.ntmps50
  go_wp2_with (first | (go_at_call 7; refine (point_n _ ha hb_ hp).mono ?_; rintro e w1 ⟨x, y, t, hq, ht, rfl, hb⟩; replace p0 : w1.cell? ⟨c, 0, none⟩ = some (.float .f64 px) := keep hb (by first | exact p0 | go_keep); replace p1 : w1.cell? ⟨c, 1, none⟩ = some (.float .f64 py) := keep hb (by first | exact p1 | go_keep); replace g0 : w1.cell? ⟨g, 0, none⟩ = some (.float .f64 nf1) := keep hb (by first | exact g0 | go_keep); replace g1 : w1.cell? ⟨g, 1, none⟩ = some (.float .f64 na1) := keep hb (by first | exact g1 | go_keep); replace g2 : w1.cell? ⟨g, 2, none⟩ = some (.float .f64 nb1) := keep hb (by first | exact g2 | go_keep); replace g3 : w1.cell? ⟨g, 3, none⟩ = some (.float .f64 nc1) := keep hb (by first | exact g3 | go_keep); replace g4 : w1.cell? ⟨g, 4, none⟩ = some (.float .f64 nd1) := keep hb (by first | exact g4 | go_keep); replace k0 : w1.cell? ⟨k, 0, none⟩ = some (.int .i64 (j : Int)) := keep hb (by first | exact k0 | go_keep); replace h0 : w1.cell? ⟨h, 0, none⟩ = some (.int .i64 (sd : Int)) := keep hb (by first | exact h0 | go_keep); have BF := hb; clear hb; have lcw1 : c < w1.heap.size := World.block_lt_of_cell? _ _ p0; have lgw1 : g < w1.heap.size := World.block_lt_of_cell? _ _ g0; have lkw1 : k < w1.heap.size := World.block_lt_of_cell? _ _ k0; have lhw1 : h < w1.heap.size := World.block_lt_of_cell? _ _ h0) | (go_at_call 51; refine (apart_n _ hq hp).mono ?_; rintro e w2 ⟨r, hN, rfl, hb⟩; replace p0 : w2.cell? ⟨c, 0, none⟩ = some (.float .f64 px) := keep hb (by first | exact p0 | go_keep); replace p1 : w2.cell? ⟨c, 1, none⟩ = some (.float .f64 py) := keep hb (by first | exact p1 | go_keep); replace g0 : w2.cell? ⟨g, 0, none⟩ = some (.float .f64 nf1) := keep hb (by first | exact g0 | go_keep); replace g1 : w2.cell? ⟨g, 1, none⟩ = some (.float .f64 na1) := keep hb (by first | exact g1 | go_keep); replace g2 : w2.cell? ⟨g, 2, none⟩ = some (.float .f64 nb1) := keep hb (by first | exact g2 | go_keep); replace g3 : w2.cell? ⟨g, 3, none⟩ = some (.float .f64 nc1) := keep hb (by first | exact g3 | go_keep); replace g4 : w2.cell? ⟨g, 4, none⟩ = some (.float .f64 nd1) := keep hb (by first | exact g4 | go_keep); replace k0 : w2.cell? ⟨k, 0, none⟩ = some (.int .i64 (j : Int)) := keep hb (by first | exact k0 | go_keep); replace h0 : w2.cell? ⟨h, 0, none⟩ = some (.int .i64 (sd : Int)) := keep hb (by first | exact h0 | go_keep); replace BF := bl_trans (by repeat (first | exact BF | apply bl_alloc | refine bl_set ?_ (by (try simp only [World.size_alloc]); omega))) hb; clear hb; have lcw2 : c < w2.heap.size := World.block_lt_of_cell? _ _ p0; have lgw2 : g < w2.heap.size := World.block_lt_of_cell? _ _ g0; have lkw2 : k < w2.heap.size := World.block_lt_of_cell? _ _ k0; have lhw2 : h < w2.heap.size := World.block_lt_of_cell? _ _ h0; have fg := fun o => (BF.2 _).trans ((B0.2 _).trans (f1 o)); have fk := fun o => (BF.2 _).trans ((B0.2 _).trans (f2 o)); have fh := fun o => (BF.2 _).trans ((B0.2 _).trans (f3 o)); cases hl : ltK .f64 r nf1))
  · have hF : ltK .f64 (apN (ptF A B P).1 P).1 N.1 = false := (lt_is hN.1 hN1.1).symm.trans hl
    refine bodyPost_end (v := .tuple #[]) (by simp [results, Try.results50, go_sem]) rfl ?_
    refine ⟨nf1, na1, nb1, nc1, nd1, sd, by rw [pkF_no hF]; exact hN1, by rw [pkF_no hF], rfl, up_alloc (up_set2 n1.symm g0), up_alloc (up_set2 n1.symm g1), up_alloc (up_set2 n1.symm g2), up_alloc (up_set2 n1.symm g3), up_alloc (up_set2 n1.symm g4), up_alloc (World.cell?_setCell_same _ _ _ k0), up_alloc (up_set2 n3 h0), fun w6 b6 e1 e2 e3 => bl_alloc (bl_set (bl_trans b6 (bl_trans B0 BF)) e2) _ _⟩
  · have hT : ltK .f64 (apN (ptF A B P).1 P).1 N.1 = true := (lt_is hN.1 hN1.1).symm.trans hl
    go_region
    obtain ⟨X, hX, r0, r1, r2, r3, r4, fX, bX⟩ := put5_all (p := .float .f64 r) (q := .float .f64 x) (r := .float .f64 y) (s := .float .f64 px) (t := .float .f64 py) g0 g1 g2 g3 g4
    rw [← hX]
    have k9 := (fX k 0 (.inl n1.symm)).trans k0
    have h9 := (fX h 0 (.inl n2.symm)).trans h0
    have fk9 : ∀ o, X.frozen? ⟨k, o, none⟩ = false := fun o => by rw [hX]; simp only [World.frozen?_setCell]; exact fk o
    have fh9 : ∀ o, X.frozen? ⟨h, o, none⟩ = false := fun o => by rw [hX]; simp only [World.frozen?_setCell]; exact fh o
    have lk9 := World.block_lt_of_cell? _ _ k9
    simp only at lk9
    clear hX
    go_wp2
    refine bodyPost_end (v := .tuple #[]) (by simp [results, Try.results50, go_sem]) rfl ?_
    refine ⟨r, x, y, px, py, j, by rw [pkF_yes hT]; exact hN, by rw [pkF_yes hT], rfl, up_alloc (up_set2 n1.symm (up_set2 n2.symm r0)), up_alloc (up_set2 n1.symm (up_set2 n2.symm r1)), up_alloc (up_set2 n1.symm (up_set2 n2.symm r2)), up_alloc (up_set2 n1.symm (up_set2 n2.symm r3)), up_alloc (up_set2 n1.symm (up_set2 n2.symm r4)), up_alloc (World.cell?_setCell_same _ _ _ (up_set2 n3.symm k9)), up_alloc (up_set2 n3 (World.cell?_setCell_same _ _ _ h9)), fun w6 b6 e1 e2 e3 => bl_drew (bl_alloc (bl_set (bl_set (bX w6 (bl_trans b6 (bl_trans B0 BF)) e1) e3) e2) _ _)⟩

set_option maxRecDepth 100000 in
set_option maxHeartbeats 2000000 in
theorem each13 (q1 q2 q3 q4 : Value) (r b off n cap : Nat) (xs ys : Nat → Nat) (w : World) (I : Nat → World → Prop) (hst : ∀ j W W', I j W → Bel W W' → I j W') (hsl : ∀ j W, I j W → Sl W b off n xs ys) (h3 : 3 ≤ n) (hn : n ≤ 4000000000) (hcap : n ≤ cap) (h0 : I 0 w)
    (step : ∀ j W, j < n → I j W → Calls Try.prog 50 #[.agg #[.float .f64 (xs j), .float .f64 (ys j)], .agg #[.float .f64 (xs ((j + 1) % n)), .float .f64 (ys ((j + 1) % n))], q1, q2, q3, q4] W fun e w' => e = .returned (.tuple #[]) ∧ I (j + 1) w') :
    Calls Try.prog 49 #[.agg #[.int .u8 3, .float .f64 r, .slice (some ⟨b, off, none⟩) n cap], .func (.func 50) #[] #[q1, q2, q3, q4]] w fun e w' => e = .returned (.tuple #[]) ∧ I n w' := by
  obtain ⟨l, hl⟩ : ∃ l, l + 1 = n := ⟨n - 1, by omega⟩
  have wl : IntKind.wrap .i64 ((n : Int) - 1) = (l : Int) := by rw [IntKind.wrap_i64]; omega
  have wl2 : (n : Int) - 1 = (l : Int) := by omega
  go_enter Try.func49, Try.ntmps49
  go_wp2
  go_loopw [21] (fun i' wr => ∃ j : Nat, j ≤ l ∧ i' = .int .i64 j ∧ I j wr) (fun i' _ => l - (intOf i').toNat)
  case atStart => exact ⟨0, by omega, rfl, hst 0 _ _ h0 (bl_alloc (bl_refl w) _ _)⟩
  case round =>
    obtain ⟨j, hj, rfl, hI⟩ := hrel
    by_cases hlt : j < l
    · have k1 : (j : Int) < (l : Int) := by omega
      have k2 : (j : Int) < (n : Int) := by omega
      have k3 : (j : Int) + 1 < (n : Int) := by omega
      have k4 : ((j + 1 : Nat) : Int) < (n : Int) := by omega
      have k5 : (0 : Int) ≤ (j : Int) + 1 := by omega
      have wj : IntKind.wrap .i64 ((j : Int) + 1) = ((j + 1 : Nat) : Int) := by rw [IntKind.wrap_i64]; omega
      have em : (j + 1) % n = j + 1 := Nat.mod_eq_of_lt (by omega)
      have S1 := step j
      rw [em] at S1
      have hlb := hsl j wr hI
      obtain ⟨a0, a1⟩ := hlb j (by omega)
      go_wp2
      refine wp_region_monoT 10 (fun i W v => match i with | 0 => v = .func (.func 50) #[] #[q1, q2, q3, q4] | 1 => v = .slice (some ⟨b, off, none⟩) n cap | 2 => v = .int .i64 (j : Int) | 3 => v = .pointer (some ⟨b, off + j * 2, none⟩) | 4 => v = .agg #[.float .f64 (xs j), .float .f64 (ys j)] | 5 => v = .slice (some ⟨b, off, none⟩) n cap | 6 => v = .int .i64 (j : Int) | 7 => v = .int .i64 ((j + 1 : Nat) : Int) | 8 => v = .pointer (some ⟨b, off + (j + 1) * 2, none⟩) | 9 => v = .agg #[.float .f64 (xs (j + 1)), .float .f64 (ys (j + 1))] | _ => False) ?A_wt (by kernel_rfl) (by kernel_rfl) ?hA_wt ?hmo_wt ?hq_wt [10] rfl ?ht_wt
      case hA_wt =>
        intro s
        simp only [putL, dstO, Act.put, List.getElem?_toArray, List.getElem?_cons_zero, List.getElem?_cons_succ, Option.bind_some, List.setIfInBounds_toArray, List.set_cons_zero, List.set_cons_succ, if_true]
        all_goals exact rfl
      case hmo_wt =>
        intro i W W' v hi hb h
        rcases (show i = 0 ∨ i = 1 ∨ i = 2 ∨ i = 3 ∨ i = 4 ∨ i = 5 ∨ i = 6 ∨ i = 7 ∨ i = 8 ∨ i = 9 by omega) with rfl | rfl | rfl | rfl | rfl | rfl | rfl | rfl | rfl | rfl
        all_goals first | exact h
      case hq_wt =>
        intro i o hi ho s W hs hb K hK
        have hs9 := hsl j W (hst j _ W hI hb); obtain ⟨a0, a1⟩ := hs9 j (by omega); obtain ⟨d0, d1⟩ := hs9 (j + 1) (by omega); have lb := World.block_lt_of_cell? _ _ a0; simp only at lb
        rcases (show i = 0 ∨ i = 1 ∨ i = 2 ∨ i = 3 ∨ i = 4 ∨ i = 5 ∨ i = 6 ∨ i = 7 ∨ i = 8 ∨ i = 9 by omega) with rfl | rfl | rfl | rfl | rfl | rfl | rfl | rfl | rfl | rfl
        · cases ho
          simp only [Act.put, List.setIfInBounds_toArray, List.set_cons_zero, List.set_cons_succ] at hK
          clear hs
          go_simp
          all_goals first | exact hK.out _ _ rfl (bl_refl _) | exact hK.out _ _ rfl (by assumption) | exact hK.out _ _ (by assumption) (by assumption)
        · cases ho
          simp only [Act.put, List.setIfInBounds_toArray, List.set_cons_zero, List.set_cons_succ] at hK
          clear hs
          go_simp
          all_goals first | exact hK.out _ _ rfl (bl_refl _) | exact hK.out _ _ rfl (by assumption) | exact hK.out _ _ (by assumption) (by assumption)
        · cases ho
          simp only [Act.put, List.setIfInBounds_toArray, List.set_cons_zero, List.set_cons_succ] at hK
          clear hs
          go_simp
          all_goals first | exact hK.out _ _ rfl (bl_refl _) | exact hK.out _ _ rfl (by assumption) | exact hK.out _ _ (by assumption) (by assumption)
        · cases ho
          have e1 : s 1 = _ := hs 1 (by decide) (by kernel_rfl)
          have e2 : s 2 = _ := hs 2 (by decide) (by kernel_rfl)
          simp only [e1, e2] at hK ⊢
          simp only [Act.put, List.setIfInBounds_toArray, List.set_cons_zero, List.set_cons_succ] at hK
          clear hs
          go_simp
          all_goals first | exact hK.out _ _ rfl (bl_refl _) | exact hK.out _ _ rfl (by assumption) | exact hK.out _ _ (by assumption) (by assumption)
        · cases ho
          have e3 : s 3 = _ := hs 3 (by decide) (by kernel_rfl)
          simp only [e3] at hK ⊢
          simp only [Act.put, List.setIfInBounds_toArray, List.set_cons_zero, List.set_cons_succ] at hK
          clear hs
          go_simp
          all_goals first | exact hK.out _ _ rfl (bl_refl _) | exact hK.out _ _ rfl (by assumption) | exact hK.out _ _ (by assumption) (by assumption)
        · cases ho
          simp only [Act.put, List.setIfInBounds_toArray, List.set_cons_zero, List.set_cons_succ] at hK
          clear hs
          go_simp
          all_goals first | exact hK.out _ _ rfl (bl_refl _) | exact hK.out _ _ rfl (by assumption) | exact hK.out _ _ (by assumption) (by assumption)
        · cases ho
          simp only [Act.put, List.setIfInBounds_toArray, List.set_cons_zero, List.set_cons_succ] at hK
          clear hs
          go_simp
          all_goals first | exact hK.out _ _ rfl (bl_refl _) | exact hK.out _ _ rfl (by assumption) | exact hK.out _ _ (by assumption) (by assumption)
        · cases ho
          have e6 : s 6 = _ := hs 6 (by decide) (by kernel_rfl)
          simp only [e6] at hK ⊢
          simp only [Act.put, List.setIfInBounds_toArray, List.set_cons_zero, List.set_cons_succ] at hK
          clear hs
          go_simp
          all_goals first | exact hK.out _ _ rfl (bl_refl _) | exact hK.out _ _ rfl (by assumption) | exact hK.out _ _ (by assumption) (by assumption)
        · cases ho
          have e5 : s 5 = _ := hs 5 (by decide) (by kernel_rfl)
          have e7 : s 7 = _ := hs 7 (by decide) (by kernel_rfl)
          simp only [e5, e7] at hK ⊢
          simp only [Act.put, List.setIfInBounds_toArray, List.set_cons_zero, List.set_cons_succ] at hK
          clear hs
          go_simp
          all_goals first | exact hK.out _ _ rfl (bl_refl _) | exact hK.out _ _ rfl (by assumption) | exact hK.out _ _ (by assumption) (by assumption)
        · cases ho
          have e8 : s 8 = _ := hs 8 (by decide) (by kernel_rfl)
          simp only [e8] at hK ⊢
          simp only [Act.put, List.setIfInBounds_toArray, List.set_cons_zero, List.set_cons_succ] at hK
          clear hs
          go_simp
          all_goals first | exact hK.out _ _ rfl (bl_refl _) | exact hK.out _ _ rfl (by assumption) | exact hK.out _ _ (by assumption) (by assumption)
      case ht_wt =>
        intro s W hs hb
        have e0 : s 0 = _ := hs 0 (by decide)
        have e1 : s 1 = _ := hs 1 (by decide)
        have e2 : s 2 = _ := hs 2 (by decide)
        have e3 : s 3 = _ := hs 3 (by decide)
        have e4 : s 4 = _ := hs 4 (by decide)
        have e5 : s 5 = _ := hs 5 (by decide)
        have e6 : s 6 = _ := hs 6 (by decide)
        have e7 : s 7 = _ := hs 7 (by decide)
        have e8 : s 8 = _ := hs 8 (by decide)
        have e9 : s 9 = _ := hs 9 (by decide)
        simp only [e0, e1, e2, e3, e4, e5, e6, e7, e8, e9]
        clear hs e0 e1 e2 e3 e4 e5 e6 e7 e8 e9
        refine tail_step rfl (fun K hK => ?_)
        go_simp
        go_wp2_with (first | (go_at_call 50; refine (S1 W (by omega) (hst j _ W hI hb)).mono ?_; rintro e w2 ⟨rfl, hI2⟩))
        refine hK.out _ _ ?_
        clear hK K
        refine tail_end ?_
        go_wp2
        exact ⟨⟨j + 1, by omega, by go_num, hI2⟩, by simp [intOf]; omega⟩
    · obtain rfl : j = l := by omega
      have k1 : ¬ (j : Int) < (j : Int) := by omega
      have k2 : (j : Int) < (n : Int) := by omega
      have k3 : (0 : Int) < (n : Int) := by omega
      have k6 : 0 < n := by omega
      have k7 : n ≠ 0 := by omega
      have em : (j + 1) % n = 0 := by rw [hl]; exact Nat.mod_self n
      have S2 := step j
      rw [em, hl] at S2
      have hlb := hsl j wr hI
      obtain ⟨a0, a1⟩ := hlb j (by omega)
      go_wp2
      refine wp_region_monoT 8 (fun i W v => match i with | 0 => v = .func (.func 50) #[] #[q1, q2, q3, q4] | 1 => v = .slice (some ⟨b, off, none⟩) n cap | 2 => v = .int .i64 (j : Int) | 3 => v = .pointer (some ⟨b, off + j * 2, none⟩) | 4 => v = .agg #[.float .f64 (xs j), .float .f64 (ys j)] | 5 => v = .slice (some ⟨b, off, none⟩) n cap | 6 => v = .pointer (some ⟨b, off, none⟩) | 7 => v = .agg #[.float .f64 (xs 0), .float .f64 (ys 0)] | _ => False) ?A_wu (by kernel_rfl) (by kernel_rfl) ?hA_wu ?hmo_wu ?hq_wu [8] rfl ?ht_wu
      case hA_wu =>
        intro s
        simp only [putL, dstO, Act.put, List.getElem?_toArray, List.getElem?_cons_zero, List.getElem?_cons_succ, Option.bind_some, List.setIfInBounds_toArray, List.set_cons_zero, List.set_cons_succ, if_true]
        all_goals exact rfl
      case hmo_wu =>
        intro i W W' v hi hb h
        rcases (show i = 0 ∨ i = 1 ∨ i = 2 ∨ i = 3 ∨ i = 4 ∨ i = 5 ∨ i = 6 ∨ i = 7 by omega) with rfl | rfl | rfl | rfl | rfl | rfl | rfl | rfl
        all_goals first | exact h
      case hq_wu =>
        intro i o hi ho s W hs hb K hK
        have hs9 := hsl _ W (hst _ _ W hI hb); obtain ⟨a0, a1⟩ := hs9 (j) (by omega); obtain ⟨d0, d1⟩ := hs9 0 (by omega); simp only [Nat.zero_mul, Nat.add_zero] at d0 d1; have lb := World.block_lt_of_cell? _ _ a0; simp only at lb
        rcases (show i = 0 ∨ i = 1 ∨ i = 2 ∨ i = 3 ∨ i = 4 ∨ i = 5 ∨ i = 6 ∨ i = 7 by omega) with rfl | rfl | rfl | rfl | rfl | rfl | rfl | rfl
        · cases ho
          simp only [Act.put, List.setIfInBounds_toArray, List.set_cons_zero, List.set_cons_succ] at hK
          clear hs
          go_simp
          all_goals first | exact hK.out _ _ rfl (bl_refl _) | exact hK.out _ _ rfl (by assumption) | exact hK.out _ _ (by assumption) (by assumption)
        · cases ho
          simp only [Act.put, List.setIfInBounds_toArray, List.set_cons_zero, List.set_cons_succ] at hK
          clear hs
          go_simp
          all_goals first | exact hK.out _ _ rfl (bl_refl _) | exact hK.out _ _ rfl (by assumption) | exact hK.out _ _ (by assumption) (by assumption)
        · cases ho
          simp only [Act.put, List.setIfInBounds_toArray, List.set_cons_zero, List.set_cons_succ] at hK
          clear hs
          go_simp
          all_goals first | exact hK.out _ _ rfl (bl_refl _) | exact hK.out _ _ rfl (by assumption) | exact hK.out _ _ (by assumption) (by assumption)
        · cases ho
          have e1 : s 1 = _ := hs 1 (by decide) (by kernel_rfl)
          have e2 : s 2 = _ := hs 2 (by decide) (by kernel_rfl)
          simp only [e1, e2] at hK ⊢
          simp only [Act.put, List.setIfInBounds_toArray, List.set_cons_zero, List.set_cons_succ] at hK
          clear hs
          go_simp
          all_goals first | exact hK.out _ _ rfl (bl_refl _) | exact hK.out _ _ rfl (by assumption) | exact hK.out _ _ (by assumption) (by assumption)
        · cases ho
          have e3 : s 3 = _ := hs 3 (by decide) (by kernel_rfl)
          simp only [e3] at hK ⊢
          simp only [Act.put, List.setIfInBounds_toArray, List.set_cons_zero, List.set_cons_succ] at hK
          clear hs
          go_simp
          all_goals first | exact hK.out _ _ rfl (bl_refl _) | exact hK.out _ _ rfl (by assumption) | exact hK.out _ _ (by assumption) (by assumption)
        · cases ho
          simp only [Act.put, List.setIfInBounds_toArray, List.set_cons_zero, List.set_cons_succ] at hK
          clear hs
          go_simp
          all_goals first | exact hK.out _ _ rfl (bl_refl _) | exact hK.out _ _ rfl (by assumption) | exact hK.out _ _ (by assumption) (by assumption)
        · cases ho
          have e5 : s 5 = _ := hs 5 (by decide) (by kernel_rfl)
          simp only [e5] at hK ⊢
          simp only [Act.put, List.setIfInBounds_toArray, List.set_cons_zero, List.set_cons_succ] at hK
          clear hs
          go_simp
          all_goals first | exact hK.out _ _ rfl (bl_refl _) | exact hK.out _ _ rfl (by assumption) | exact hK.out _ _ (by assumption) (by assumption)
        · cases ho
          have e6 : s 6 = _ := hs 6 (by decide) (by kernel_rfl)
          simp only [e6] at hK ⊢
          simp only [Act.put, List.setIfInBounds_toArray, List.set_cons_zero, List.set_cons_succ] at hK
          clear hs
          go_simp
          all_goals first | exact hK.out _ _ rfl (bl_refl _) | exact hK.out _ _ rfl (by assumption) | exact hK.out _ _ (by assumption) (by assumption)
      case ht_wu =>
        intro s W hs hb
        have e0 : s 0 = _ := hs 0 (by decide)
        have e1 : s 1 = _ := hs 1 (by decide)
        have e2 : s 2 = _ := hs 2 (by decide)
        have e3 : s 3 = _ := hs 3 (by decide)
        have e4 : s 4 = _ := hs 4 (by decide)
        have e5 : s 5 = _ := hs 5 (by decide)
        have e6 : s 6 = _ := hs 6 (by decide)
        have e7 : s 7 = _ := hs 7 (by decide)
        simp only [e0, e1, e2, e3, e4, e5, e6, e7]
        clear hs e0 e1 e2 e3 e4 e5 e6 e7
        refine tail_step rfl (fun K hK => ?_)
        go_simp
        go_wp2_with (first | (go_at_call 50; refine (S2 W (by omega) (hst j _ W hI hb)).mono ?_; rintro e w2 ⟨rfl, hI2⟩))
        refine hK.out _ _ ?_
        clear hK K
        refine tail_end ?_
        go_wp2
        refine bodyPost_end (v := .tuple #[]) (by simp [results, Try.results49, go_sem]) rfl ?_
        exact ⟨rfl, hI2⟩

end Go.Proofs.Ytpedpgpgcmhnoab
