/-
  What each function of package poly answers, and what the reference of its chapter answers: one contract a function, for every float: the answer stands in the relation of its formula to what was given; of the memory that was there nothing has turned.
-/
import Derived.Test.YtdkfefbllmjnjaaVec
import Derived.Test.YtdkfefbllmjnjaaPn
import Derived.Below
import Derived.Laws.StructEq
import Derived.WalkKit
import Derived.WalkLawsBesides
import Derived.WalkSpells
import Derived.ProofKit
import Derived.OpenShut
import Derived.Deep.RegionHeld3
namespace Go.Proofs.Ytdkfefbllmjnjaa
open Go.ChangeShapes Go.WideShapes Go.ChangeAt Go.RowKit
set_option linter.unusedVariables false
set_option linter.unusedSimpArgs false


theorem rSame_eq (x y : Nat) (w : World) : Calls Try.prog 32 #[.agg #[.float .f64 x, .float .f64 y], .agg #[.float .f64 x, .float .f64 y]] w fun e w' => e = .returned (.bool true) ∧ Bel w w' := by
  have h := rSame_any x y x y w
  rw [smK_self, smK_self] at h
  exact h
theorem same_eq (a o1 c1 b o2 c2 n : Nat) (xs ys : Nat → Nat) (w : World) (sA : Sl w a o1 n xs ys) (sB : Sl w b o2 n xs ys) (hn : n ≤ maxLen) (h1 : n ≤ c1) (h2 : n ≤ c2) : Calls Try.prog 33 #[.slice (some ⟨a, o1, none⟩) n c1, .slice (some ⟨b, o2, none⟩) n c2] w fun e w' => e = .returned (.bool true) ∧ Bel w w' := by
  unfold maxLen at hn
  go_enter Try.func33, Try.ntmps33
  go_wp2
  go_loopw [5] (fun i' wr => ∃ k : Nat, k ≤ n ∧ i' = .int .i64 k ∧ Bel w wr) (fun i' _ => n - (intOf i').toNat)
  case atStart => exact ⟨0, by omega, rfl, bl_refl _⟩
  case round =>
    obtain ⟨k, hk, rfl, hB⟩ := hrel
    by_cases hlt : k < n
    · have k1 : (k : Int) < (n : Int) := by omega
      go_wp2
      refine wp_region_multiA 10 (fun i v => match i with | 0 => v = .slice (some ⟨a, o1, none⟩) n c1 | 1 => v = .int .i64 (k : Int) | 2 => v = .pointer (some ⟨a, o1 + k * 2, none⟩) | 3 => v = .agg #[.float .f64 (xs k), .float .f64 (ys k)] | 4 => v = .slice (some ⟨b, o2, none⟩) n c2 | 5 => v = .int .i64 (k : Int) | 6 => v = .pointer (some ⟨b, o2 + k * 2, none⟩) | 7 => v = .agg #[.float .f64 (xs k), .float .f64 (ys k)] | 8 => v = .bool true | 9 => v = .bool false | _ => False) (fun i => match i with  | _ => none) ?A_wh (by kernel_rfl) (by kernel_rfl) ?hA_wh ?ha_wh ?hq_wh [] rfl ?ht_wh
      case hA_wh =>
        intro s
        simp only [putL, dstO, Act.put, List.getElem?_toArray, List.getElem?_cons_zero, List.getElem?_cons_succ, Option.bind_some, List.setIfInBounds_toArray, List.set_cons_zero, List.set_cons_succ, if_true]
        all_goals exact rfl
      case ha_wh =>
        intro i o ob hi ho hal
        rcases (show i = 0 ∨ i = 1 ∨ i = 2 ∨ i = 3 ∨ i = 4 ∨ i = 5 ∨ i = 6 ∨ i = 7 ∨ i = 8 ∨ i = 9 by omega) with rfl | rfl | rfl | rfl | rfl | rfl | rfl | rfl | rfl | rfl
        · cases hal
        · cases hal
        · cases hal
        · cases hal
        · cases hal
        · cases hal
        · cases hal
        · cases hal
        · cases hal
        · cases hal
      case hq_wh =>
        intro i o hi ho hal s hs W hb K hK
        obtain ⟨y0, y1⟩ := (sA.bel (bl_trans hB hb)) k hlt; obtain ⟨y2, y3⟩ := (sB.bel (bl_trans hB hb)) k hlt
        rcases (show i = 0 ∨ i = 1 ∨ i = 2 ∨ i = 3 ∨ i = 4 ∨ i = 5 ∨ i = 6 ∨ i = 7 ∨ i = 8 ∨ i = 9 by omega) with rfl | rfl | rfl | rfl | rfl | rfl | rfl | rfl | rfl | rfl
        · cases ho
          simp only [Act.put, List.setIfInBounds_toArray, List.set_cons_zero, List.set_cons_succ] at hK
          clear hs
          go_simp
          all_goals (try go_wp2_with (first | (go_at_call 32; refine (rSame_eq _ _ _).mono ?_; rintro e w1 ⟨rfl, hb1⟩)))
          all_goals first | exact hK.out _ _ rfl (bl_refl _) | exact hK.out _ _ rfl (by assumption) | exact hK.out _ _ (by assumption) (by assumption)
        · cases ho
          simp only [Act.put, List.setIfInBounds_toArray, List.set_cons_zero, List.set_cons_succ] at hK
          clear hs
          go_simp
          all_goals (try go_wp2_with (first | (go_at_call 32; refine (rSame_eq _ _ _).mono ?_; rintro e w1 ⟨rfl, hb1⟩)))
          all_goals first | exact hK.out _ _ rfl (bl_refl _) | exact hK.out _ _ rfl (by assumption) | exact hK.out _ _ (by assumption) (by assumption)
        · cases ho
          have e0 : s 0 = _ := hs 0 (by decide) (by kernel_rfl)
          have e1 : s 1 = _ := hs 1 (by decide) (by kernel_rfl)
          simp only [e0, e1] at hK ⊢
          simp only [Act.put, List.setIfInBounds_toArray, List.set_cons_zero, List.set_cons_succ] at hK
          clear hs
          go_simp
          all_goals (try go_wp2_with (first | (go_at_call 32; refine (rSame_eq _ _ _).mono ?_; rintro e w1 ⟨rfl, hb1⟩)))
          all_goals first | exact hK.out _ _ rfl (bl_refl _) | exact hK.out _ _ rfl (by assumption) | exact hK.out _ _ (by assumption) (by assumption)
        · cases ho
          have e2 : s 2 = _ := hs 2 (by decide) (by kernel_rfl)
          simp only [e2] at hK ⊢
          simp only [Act.put, List.setIfInBounds_toArray, List.set_cons_zero, List.set_cons_succ] at hK
          clear hs
          go_simp
          all_goals (try go_wp2_with (first | (go_at_call 32; refine (rSame_eq _ _ _).mono ?_; rintro e w1 ⟨rfl, hb1⟩)))
          all_goals first | exact hK.out _ _ rfl (bl_refl _) | exact hK.out _ _ rfl (by assumption) | exact hK.out _ _ (by assumption) (by assumption)
        · cases ho
          simp only [Act.put, List.setIfInBounds_toArray, List.set_cons_zero, List.set_cons_succ] at hK
          clear hs
          go_simp
          all_goals (try go_wp2_with (first | (go_at_call 32; refine (rSame_eq _ _ _).mono ?_; rintro e w1 ⟨rfl, hb1⟩)))
          all_goals first | exact hK.out _ _ rfl (bl_refl _) | exact hK.out _ _ rfl (by assumption) | exact hK.out _ _ (by assumption) (by assumption)
        · cases ho
          simp only [Act.put, List.setIfInBounds_toArray, List.set_cons_zero, List.set_cons_succ] at hK
          clear hs
          go_simp
          all_goals (try go_wp2_with (first | (go_at_call 32; refine (rSame_eq _ _ _).mono ?_; rintro e w1 ⟨rfl, hb1⟩)))
          all_goals first | exact hK.out _ _ rfl (bl_refl _) | exact hK.out _ _ rfl (by assumption) | exact hK.out _ _ (by assumption) (by assumption)
        · cases ho
          have e4 : s 4 = _ := hs 4 (by decide) (by kernel_rfl)
          have e5 : s 5 = _ := hs 5 (by decide) (by kernel_rfl)
          simp only [e4, e5] at hK ⊢
          simp only [Act.put, List.setIfInBounds_toArray, List.set_cons_zero, List.set_cons_succ] at hK
          clear hs
          go_simp
          all_goals (try go_wp2_with (first | (go_at_call 32; refine (rSame_eq _ _ _).mono ?_; rintro e w1 ⟨rfl, hb1⟩)))
          all_goals first | exact hK.out _ _ rfl (bl_refl _) | exact hK.out _ _ rfl (by assumption) | exact hK.out _ _ (by assumption) (by assumption)
        · cases ho
          have e6 : s 6 = _ := hs 6 (by decide) (by kernel_rfl)
          simp only [e6] at hK ⊢
          simp only [Act.put, List.setIfInBounds_toArray, List.set_cons_zero, List.set_cons_succ] at hK
          clear hs
          go_simp
          all_goals (try go_wp2_with (first | (go_at_call 32; refine (rSame_eq _ _ _).mono ?_; rintro e w1 ⟨rfl, hb1⟩)))
          all_goals first | exact hK.out _ _ rfl (bl_refl _) | exact hK.out _ _ rfl (by assumption) | exact hK.out _ _ (by assumption) (by assumption)
        · cases ho
          have e3 : s 3 = _ := hs 3 (by decide) (by kernel_rfl)
          have e7 : s 7 = _ := hs 7 (by decide) (by kernel_rfl)
          simp only [e3, e7] at hK ⊢
          simp only [Act.put, List.setIfInBounds_toArray, List.set_cons_zero, List.set_cons_succ] at hK
          clear hs
          go_simp
          all_goals (try go_wp2_with (first | (go_at_call 32; refine (rSame_eq _ _ _).mono ?_; rintro e w1 ⟨rfl, hb1⟩)))
          all_goals first | exact hK.out _ _ rfl (bl_refl _) | exact hK.out _ _ rfl (by assumption) | exact hK.out _ _ (by assumption) (by assumption)
        · cases ho
          have e8 : s 8 = _ := hs 8 (by decide) (by kernel_rfl)
          simp only [e8] at hK ⊢
          simp only [Act.put, List.setIfInBounds_toArray, List.set_cons_zero, List.set_cons_succ] at hK
          clear hs
          go_simp
          all_goals (try go_wp2_with (first | (go_at_call 32; refine (rSame_eq _ _ _).mono ?_; rintro e w1 ⟨rfl, hb1⟩)))
          all_goals first | exact hK.out _ _ rfl (bl_refl _) | exact hK.out _ _ rfl (by assumption) | exact hK.out _ _ (by assumption) (by assumption)
      case ht_wh =>
        intro s hs W hb hJ
        have e0 : s 0 = _ := hs 0 (by decide)
        have e1 : s 1 = _ := hs 1 (by decide)
        have e2 : s 2 = _ := hs 2 (by decide)
        have e3 : s 3 = _ := hs 3 (by decide)
        have e4 : s 4 = _ := hs 4 (by decide)
        have e5 : s 5 = _ := hs 5 (by decide)
        have e6 : s 6 = _ := hs 6 (by decide)
        have e7 : s 7 = _ := hs 7 (by decide)
        have e8 : s 8 = _ := hs 8 (by decide)
        have e9 : s 9 = _ := hs 9 (by decide)
        simp only [e0, e1, e2, e3, e4, e5, e6, e7, e8, e9]
        clear hs
        refine tail_end ?_
        go_wp2
        exact ⟨⟨k + 1, by omega, by go_num, bl_trans hB hb⟩, by simp [intOf]; omega⟩
    · have hkn : k = n := by omega
      subst hkn
      go_wp2
      go_ret
      exact ⟨rfl, hB⟩
theorem same_nil (u v : Option Addr) (c1 c2 : Nat) (w : World) : Calls Try.prog 33 #[.slice u 0 c1, .slice v 0 c2] w fun e w' => e = .returned (.bool true) ∧ Bel w w' := by
  go_enter Try.func33, Try.ntmps33
  go_wp2
  refine wp_loop_rounds 1 ?_
  rw [rounds_succ]
  go_wp2
  go_ret
  exact ⟨rfl, bl_refl _⟩
def sqL : List Pt := [(0, 0), (4611686018427387904, 0), (4611686018427387904, 4611686018427387904), (0, 4611686018427387904)]
def otL : List Pt := [(4613937818241073152, 0), (4617315517961601024, 0), (4617315517961601024, 4611686018427387904), (4613937818241073152, 4611686018427387904)]
def exL : List Pt := [(4611686018427387904, 4611686018427387904), (0, 0), (4607182418800017408, 4607182418800017408), (4611686018427387904, 0), (0, 4611686018427387904), (4611686018427387904, 0)]

theorem sqL_laid (W : World) : Sl (W.alloc (.cells #[.float .f64 0, .float .f64 0, .float .f64 4611686018427387904, .float .f64 0, .float .f64 4611686018427387904, .float .f64 4611686018427387904, .float .f64 0, .float .f64 4611686018427387904] 24)) W.heap.size 0 4 (px sqL) (py sqL) := by
  intro i hi
  rcases (show i = 0 ∨ i = 1 ∨ i = 2 ∨ i = 3 by omega) with rfl | rfl | rfl | rfl
  all_goals constructor <;> (rw [World.cell?_alloc_new]; rfl)

theorem otL_laid (W : World) : Sl (W.alloc (.cells #[.float .f64 4613937818241073152, .float .f64 0, .float .f64 4617315517961601024, .float .f64 0, .float .f64 4617315517961601024, .float .f64 4611686018427387904, .float .f64 4613937818241073152, .float .f64 4611686018427387904] 24)) W.heap.size 0 4 (px otL) (py otL) := by
  intro i hi
  rcases (show i = 0 ∨ i = 1 ∨ i = 2 ∨ i = 3 by omega) with rfl | rfl | rfl | rfl
  all_goals constructor <;> (rw [World.cell?_alloc_new]; rfl)

theorem exL_laid (W : World) : Sl (W.alloc (.cells #[.float .f64 4611686018427387904, .float .f64 4611686018427387904, .float .f64 0, .float .f64 0, .float .f64 4607182418800017408, .float .f64 4607182418800017408, .float .f64 4611686018427387904, .float .f64 0, .float .f64 0, .float .f64 4611686018427387904, .float .f64 4611686018427387904, .float .f64 0] 24)) W.heap.size 0 6 (px exL) (py exL) := by
  intro i hi
  rcases (show i = 0 ∨ i = 1 ∨ i = 2 ∨ i = 3 ∨ i = 4 ∨ i = 5 by omega) with rfl | rfl | rfl | rfl | rfl | rfl
  all_goals constructor <;> (rw [World.cell?_alloc_new]; rfl)

theorem oks_of {L : List Pt} (h : L.all (fun p => decide (p.1 < 18446744073709551616) && decide (p.2 < 18446744073709551616)) = true) : Oks (px L) (py L) L.length := fun i hi => by
  have := List.all_eq_true.1 h _ (pt_mem hi)
  rw [Bool.and_eq_true, decide_eq_true_eq, decide_eq_true_eq] at this
  rw [okK64, okK64]
  exact this
theorem square_d (w : World) : Calls Try.prog 59 #[] w fun e w' => e = .returned (.slice (some ⟨w.heap.size, 0, none⟩) 4 4) ∧ Sl w' w.heap.size 0 4 (px sqL) (py sqL) ∧ Bel w w' := by
  go_enter Try.func59, Try.ntmps59
  go_wp2
  go_ret
  exact ⟨rfl, sqL_laid w, bl_alloc (bl_refl w) _ _⟩
theorem x_plc : plcE (px exL) (py exL) exL.length = 0 := by decide +kernel
theorem x_ord : 2 ≤ (inOrd exL).length := by decide +kernel
theorem x_hull : hullD (inOrd exL) = sqL := by decide +kernel
theorem x_chk : chkE (px sqL) (py sqL) 4 = 0 := by decide +kernel
theorem x_cho : chkE (px otL) (py otL) 4 = 0 := by decide +kernel
theorem x_fan : fanE (px sqL) (py sqL) 4 = 0 := by decide +kernel
theorem x_area : areaE (px sqL) (py sqL) 4 = 4616189618054758400 := by decide +kernel
theorem x_cx : cenX (px sqL) (py sqL) 4 = 4607182418800017408 := by decide +kernel
theorem x_cy : cenY (px sqL) (py sqL) 4 = 4607182418800017408 := by decide +kernel
theorem x_ap : apE (px sqL) (py sqL) 4 (px otL) (py otL) 4 = 0 := by decide +kernel
theorem x_apv : apV (px sqL) (py sqL) 4 (px otL) (py otL) 4 = 1 := by decide +kernel
theorem x_apw : apW (px sqL) (py sqL) 4 (px otL) (py otL) 4 = 4607182418800017408 := by decide +kernel
theorem x_has : hasV (px sqL) (py sqL) 4 4612811918334230528 4607182418800017408 = false := by decide +kernel
theorem x_with : withE (px sqL) (py sqL) 4 4612811918334230528 4607182418800017408 = 0 := by decide +kernel
theorem x_two : chkE (px sqL) (py sqL) 2 = 60 := by decide +kernel

end Go.Proofs.Ytdkfefbllmjnjaa
