/-
  What each function of package poly answers, and what the reference of its chapter answers: one contract a function, for every float: the answer stands in the relation of its formula to what was given; of the memory that was there nothing has turned.
-/
import Derived.Test.YtdeooadeohojcaaGreatVec
import Derived.Test.YtdeooadeohojcaaGreatRx
import Derived.Test.YtdeooadeohojcaaGreatShp
import Derived.Below
import Derived.WalkKit
import Derived.WalkLawsBesides
import Derived.WalkSpells
import Derived.ProofKit
import Derived.OpenShut
import Derived.Deep.RegionHeld3
namespace Go.Proofs.YtdeooadeohojcaaGreat
open Go.ChangeShapes Go.WideShapes Go.ChangeAt Go.RowKit
set_option linter.unusedVariables false
set_option linter.unusedSimpArgs false


set_option maxHeartbeats 1000000 in
theorem round_d (b off n cap : Nat) (xs ys : Nat → Nat) (r : Nat) (w : World) (hs : Sl w b off n xs ys) (hp : 0 < n) (hn : n ≤ maxLen) (hcap : n ≤ cap) : Calls Tryz.prog 133 #[.float .f64 r, .slice (some ⟨b, off, none⟩) n cap] w fun e w' => e = .returned (.int .i64 (rdE xs ys n r)) ∧ Bel w w' := by
  unfold maxLen at hn
  have hb0 := hs.lt hp
  have c1 := cmp_ge .f64
  have c2 := cmp_le .f64
  go_enter Tryz.func133, Tryz.ntmps133
  go_wp2
  go_loopw [9] (fun i wr => ∃ k : Nat, k ≤ n ∧ i = .int .i64 k ∧ Bel w wr ∧ ∀ q, q < k → (withinK .f64 (xs q) 4787326403894837248 && withinK .f64 (ys q) 4787326403894837248) = true) (fun i _ => n - (intOf i).toNat)
  case atStart => exact ⟨0, by omega, rfl, bl_refl _, fun q hq => by omega⟩
  case round =>
    obtain ⟨k, hk, rfl, hB, hq⟩ := hrel
    by_cases hlt : k < n
    · obtain ⟨x0, x1⟩ := hs k hlt
      have x0 := keep hB x0
      have x1 := keep hB x1
      have hbb : b < wr.heap.size := Nat.lt_of_lt_of_le hb0 hB.size
      have k1 : (k : Int) < (n : Int) := by omega
      cases hw : (withinK .f64 (xs k) 4787326403894837248 && withinK .f64 (ys k) 4787326403894837248)
      all_goals go_wp2_with (first | (go_at_call 16; refine (vWithin_any _ _ _ _).mono ?_; rintro e w' ⟨rfl, hb⟩; rw [hw]; have B := hb))
      · go_ret
        exact ⟨by rw [rdE_bad1 (allB_no hlt hw)]; rfl, bl_trans (bl_alloc hB _ _) B⟩
      · refine ⟨⟨k + 1, by omega, by go_num, bl_trans (bl_alloc hB _ _) B, fun q h => ?_⟩, by simp [intOf]; omega⟩
        rcases Nat.lt_or_ge q k with g | g
        · exact hq q g
        · rw [show q = k by omega]; exact hw
    · have hkn : k = n := by omega
      subst hkn
      have hre : reaB xs ys k = true := allB_iff.2 hq
      cases h1 : leK .f64 4472074429978902528 r
      · have e : rdE xs ys k r = 5 := rdE_bad2 (by unfold rdB; rw [h1]; rfl)
        go_wp2
        go_ret
        exact ⟨by rw [e]; rfl, hB⟩
      · cases h2 : leK .f64 r 4787326403894837248
        · have e : rdE xs ys k r = 5 := rdE_bad2 (by unfold rdB; rw [h2, Bool.and_false])
          go_wp2
          go_ret
          exact ⟨by rw [e]; rfl, hB⟩
        · have e : rdE xs ys k r = 0 := rdE_good hre (by unfold rdB; rw [h1, h2]; rfl)
          go_wp2
          go_ret
          exact ⟨by rw [e]; rfl, hB⟩
theorem laid1 (W : World) (xs ys : Nat → Nat) : Sl (W.alloc (.cells #[.float .f64 (xs 0), .float .f64 (ys 0)] 24)) W.heap.size 0 1 xs ys := by
  intro i hi
  rcases (show i = 0 by omega) with rfl
  all_goals constructor <;> (rw [World.cell?_alloc_new]; rfl)
theorem laid2 (W : World) (xs ys : Nat → Nat) : Sl (W.alloc (.cells #[.float .f64 (xs 0), .float .f64 (ys 0), .float .f64 (xs 1), .float .f64 (ys 1)] 24)) W.heap.size 0 2 xs ys := by
  intro i hi
  rcases (show i = 0 ∨ i = 1 by omega) with rfl | rfl
  all_goals constructor <;> (rw [World.cell?_alloc_new]; rfl)
theorem cChk_d (xs ys : Nat → Nat) (r : Nat) (w : World) : Calls Tryz.prog 130 #[.agg #[.float .f64 (xs 0), .float .f64 (ys 0), .float .f64 r]] w fun e w' => e = .returned (.int .i64 (rdE xs ys 1 r)) ∧ Bel w w' := by
  have ls := laid1 (w.alloc (.cells #[.float .f64 (xs 0), .float .f64 (ys 0), .float .f64 r] 102)) xs ys
  rw [World.size_alloc] at ls
  go_enter Tryz.func130, Tryz.ntmps130
  go_wp2_with (first | (go_at_call 133; refine (round_d _ 0 1 1 xs ys r _ ls (by decide) (by unfold maxLen; decide) (by decide)).mono ?_; rintro e w' ⟨rfl, hb⟩))
  go_ret
  refine ⟨rfl, ?_⟩
  repeat (first | exact bl_refl _ | assumption | apply bl_drewN | apply bl_drew | apply bl_alloc | refine bl_set ?_ (by simp <;> omega) | refine bl_trans ?_ (by assumption))
theorem way_d5 (xs ys : Nat → Nat) (r : Nat) (w : World) (h1 : Bd 40 (xs 0)) (h2 : Bd 40 (ys 0)) (h3 : Bd 40 (xs 1)) (h4 : Bd 40 (ys 1)) : Calls Tryz.prog 137 #[.agg #[.float .f64 (xs 0), .float .f64 (ys 0), .float .f64 (xs 1), .float .f64 (ys 1), .float .f64 r]] w fun e w' => e = .returned (.agg #[.float .f64 (Dv .sub (xs 1) (xs 0)), .float .f64 (Dv .sub (ys 1) (ys 0))]) ∧ Bel w w' := by
  go_enter Tryz.func137, Tryz.ntmps137
  go_wp2_with (first | (go_at_call 19; refine (vSub_d _ (by with_reducible assumption) (by with_reducible assumption) (by with_reducible assumption) (by with_reducible assumption)).mono ?_; rintro e w' ⟨rfl, hb⟩; have B := hb; obtain ⟨hc, hf⟩ := bcell B; have hz := B.size; (try simp at hz)))
  refine bodyPost_ret (v := .agg #[.float .f64 _, .float .f64 _]) (by simp [hc, results, Tryz.results137, go_sem] <;> (first | exact ⟨rfl, rfl⟩ | rfl)) rfl ⟨rfl, ?_⟩
  repeat (first | exact bl_refl _ | assumption | apply bl_drewN | apply bl_drew | apply bl_alloc | refine bl_set ?_ (by simp <;> omega) | refine bl_trans ?_ (by assumption))
theorem aChk_d (xs ys : Nat → Nat) (r : Nat) (w : World) (o : Oks xs ys 2) : Calls Tryz.prog 134 #[.agg #[.float .f64 (xs 0), .float .f64 (ys 0), .float .f64 (xs 1), .float .f64 (ys 1), .float .f64 r]] w fun e w' => e = .returned (.int .i64 (ckE xs ys r)) ∧ Bel w w' := by
  have ls := laid2 (w.alloc (.cells #[.float .f64 (xs 0), .float .f64 (ys 0), .float .f64 (xs 1), .float .f64 (ys 1), .float .f64 r] 104)) xs ys
  rw [World.size_alloc] at ls
  have c1 := cmp_lt .f64
  rcases rdE_vals xs ys 2 r with hr | hr
  · obtain ⟨hre, _⟩ := rdE_ok hr
    have g := gd_of o hre
    obtain ⟨g1, g2⟩ := g 0 (by decide)
    obtain ⟨g3, g4⟩ := g 1 (by decide)
    obtain ⟨w1, w2⟩ := cw_bd g
    unfold cwK at w1 w2
    cases hc : cpB (xs 0) (ys 0) (xs 1) (ys 1)
    all_goals
      have he := hc
      unfold cpB at hc
      go_enter Tryz.func134, Tryz.ntmps134
      go_wp2_with (first | (go_at_call 133; refine (round_d _ 0 2 2 xs ys r _ ls (by decide) (by unfold maxLen; decide) (by decide)).mono ?_; rintro e w' ⟨rfl, hb⟩; rw [hr]; have B := hb; obtain ⟨hc, hf⟩ := bcell B; have hz := B.size; (try simp at hz)) | (go_at_call 137; refine (way_d5 _ _ _ _ (by with_reducible assumption) (by with_reducible assumption) (by with_reducible assumption) (by with_reducible assumption)).mono ?_; rintro e w' ⟨rfl, hb⟩; clear hc hf hz; have B := bl_trans B hb; obtain ⟨hc, hf⟩ := bcell B; have hz := B.size; (try simp at hz)) | (go_at_call 38; refine (vLength_d _ (by with_reducible assumption) (by with_reducible assumption) (by decide)).mono ?_; rintro e w' ⟨rfl, hb⟩; clear hc hf hz; have B := bl_trans B hb; obtain ⟨hc, hf⟩ := bcell B; have hz := B.size; (try simp at hz)))
      go_ret
      refine ⟨by unfold ckE; rw [if_pos hr, he]; rfl, ?_⟩
      repeat (first | exact bl_refl _ | assumption | apply bl_drewN | apply bl_drew | apply bl_alloc | refine bl_set ?_ (by simp <;> omega) | refine bl_trans ?_ (by assumption))
  · go_enter Tryz.func134, Tryz.ntmps134
    go_wp2_with (first | (go_at_call 133; refine (round_d _ 0 2 2 xs ys r _ ls (by decide) (by unfold maxLen; decide) (by decide)).mono ?_; rintro e w' ⟨rfl, hb⟩; rw [hr]))
    go_ret
    refine ⟨by unfold ckE; rw [hr]; rfl, ?_⟩
    repeat (first | exact bl_refl _ | assumption | apply bl_drewN | apply bl_drew | apply bl_alloc | refine bl_set ?_ (by simp <;> omega) | refine bl_trans ?_ (by assumption))

theorem vMore_d {n m k ax ay sc bx b_y : Nat} (w : World) (h1 : Bd n ax) (h2 : Bd n ay) (h3 : Bd m sc) (h4 : Bd k bx) (h5 : Bd k b_y) (hn : m + k ≤ 800) : Calls Tryz.prog 26 #[.agg #[.float .f64 ax, .float .f64 ay], .float .f64 sc, .agg #[.float .f64 bx, .float .f64 b_y]] w fun e w' => e = .returned (.agg #[.float .f64 (moK ax sc bx), .float .f64 (moK ay sc b_y)]) ∧ Bel w w' :=
  (vMore_any _ _ _ _ _ w).mono fun e w' ⟨x, y, h, he, hb⟩ => ⟨by obtain ⟨e1, e2⟩ := moreR_d h1 h2 h3 h4 h5 hn h; rw [he, e1, e2], hb⟩

set_option maxHeartbeats 1000000 in
theorem cHas_d (cx cy r p q : Nat) (w : World) (h1 : Bd 200 cx) (h2 : Bd 200 cy) (h3 : Bd 40 r) (h4 : Bd 200 p) (h5 : Bd 200 q) : Calls Tryz.prog 131 #[.agg #[.float .f64 cx, .float .f64 cy, .float .f64 r], .agg #[.float .f64 p, .float .f64 q]] w fun e w' => e = .returned (.bool (hcB cx cy r p q)) ∧ Bel w w' := by
  have s1 : Bd 202 (Dv .sub p cx) := bd_sub h4 h1 (by decide)
  have s2 : Bd 202 (Dv .sub q cy) := bd_sub h5 h2 (by decide)
  have c1 := cmp_le .f64
  have q1 := fun t W => run_mul_dv Tryz.prog t r r W h3.2.1 h3.2.1
  have ef : leK .f64 (dtK (Dv .sub p cx) (Dv .sub q cy) (Dv .sub p cx) (Dv .sub q cy)) (Dv .mul r r) = hcB cx cy r p q := rfl
  have z0_0 : (w.alloc (.cells #[.float .f64 cx, .float .f64 cy, .float .f64 r] 102)).cell? ⟨w.heap.size, 0, none⟩ = some (.float .f64 cx) := by rw [World.cell?_alloc_new]; rfl
  replace z0_0 := up_alloc (o := .cells #[.float .f64 p, .float .f64 q] 24) z0_0
  have z0_1 : (w.alloc (.cells #[.float .f64 cx, .float .f64 cy, .float .f64 r] 102)).cell? ⟨w.heap.size, 1, none⟩ = some (.float .f64 cy) := by rw [World.cell?_alloc_new]; rfl
  replace z0_1 := up_alloc (o := .cells #[.float .f64 p, .float .f64 q] 24) z0_1
  have z0_2 : (w.alloc (.cells #[.float .f64 cx, .float .f64 cy, .float .f64 r] 102)).cell? ⟨w.heap.size, 2, none⟩ = some (.float .f64 r) := by rw [World.cell?_alloc_new]; rfl
  replace z0_2 := up_alloc (o := .cells #[.float .f64 p, .float .f64 q] 24) z0_2
  have z1_0 : ((w.alloc (.cells #[.float .f64 cx, .float .f64 cy, .float .f64 r] 102)).alloc (.cells #[.float .f64 p, .float .f64 q] 24)).cell? ⟨w.heap.size + 1, 0, none⟩ = some (.float .f64 p) := by rw [← (show (w.alloc (.cells #[.float .f64 cx, .float .f64 cy, .float .f64 r] 102)).heap.size = w.heap.size + 1 by simp only [World.size_alloc]), World.cell?_alloc_new]; rfl
  have z1_1 : ((w.alloc (.cells #[.float .f64 cx, .float .f64 cy, .float .f64 r] 102)).alloc (.cells #[.float .f64 p, .float .f64 q] 24)).cell? ⟨w.heap.size + 1, 1, none⟩ = some (.float .f64 q) := by rw [← (show (w.alloc (.cells #[.float .f64 cx, .float .f64 cy, .float .f64 r] 102)).heap.size = w.heap.size + 1 by simp only [World.size_alloc]), World.cell?_alloc_new]; rfl
  have B0 : Bel w ((w.alloc (.cells #[.float .f64 cx, .float .f64 cy, .float .f64 r] 102)).alloc (.cells #[.float .f64 p, .float .f64 q] 24)) := bl_alloc (bl_alloc (bl_refl w) _ _) _ _
  go_enter Tryz.func131, Tryz.ntmps131
  go_wp2
  refine wp_region_multiA 12 (fun i v => match i with | 0 => v = .agg #[.float .f64 p, .float .f64 q] | 1 => v = .pointer (some ⟨w.heap.size, 0, none⟩) | 2 => v = .agg #[.float .f64 cx, .float .f64 cy] | 3 => v = .agg #[.float .f64 (Dv .sub p cx), .float .f64 (Dv .sub q cy)] | 4 => v = .float .f64 (dtK (Dv .sub p cx) (Dv .sub q cy) (Dv .sub p cx) (Dv .sub q cy)) | 5 => v = .pointer (some ⟨w.heap.size, 2, none⟩) | 6 => v = .float .f64 r | 7 => v = .pointer (some ⟨w.heap.size, 2, none⟩) | 8 => v = .float .f64 r | 9 => v = .float .f64 (Dv .mul r r) | 10 => v = .bool (hcB cx cy r p q) | 11 => v = .bool (hcB cx cy r p q) | _ => False) (fun i => match i with  | _ => none) ?A_wf (by kernel_rfl) (by kernel_rfl) ?hA_wf ?ha_wf ?hq_wf [] rfl ?ht_wf
  case hA_wf =>
    intro s
    simp only [putL, dstO, Act.put, List.getElem?_toArray, List.getElem?_cons_zero, List.getElem?_cons_succ, Option.bind_some, List.setIfInBounds_toArray, List.set_cons_zero, List.set_cons_succ, if_true]
    all_goals exact rfl
  case ha_wf =>
    intro i o ob hi ho hal
    rcases (show i = 0 ∨ i = 1 ∨ i = 2 ∨ i = 3 ∨ i = 4 ∨ i = 5 ∨ i = 6 ∨ i = 7 ∨ i = 8 ∨ i = 9 ∨ i = 10 ∨ i = 11 by omega) with rfl | rfl | rfl | rfl | rfl | rfl | rfl | rfl | rfl | rfl | rfl | rfl
    · cases hal
    · cases hal
    · cases hal
    · cases hal
    · cases hal
    · cases hal
    · cases hal
    · cases hal
    · cases hal
    · cases hal
    · cases hal
    · cases hal
  case hq_wf =>
    intro i o hi ho hal s hs W hb K hK
    have yz0_0 := keep hb z0_0; have yz0_1 := keep hb z0_1; have yz0_2 := keep hb z0_2; have yz1_0 := keep hb z1_0; have yz1_1 := keep hb z1_1
    rcases (show i = 0 ∨ i = 1 ∨ i = 2 ∨ i = 3 ∨ i = 4 ∨ i = 5 ∨ i = 6 ∨ i = 7 ∨ i = 8 ∨ i = 9 ∨ i = 10 ∨ i = 11 by omega) with rfl | rfl | rfl | rfl | rfl | rfl | rfl | rfl | rfl | rfl | rfl | rfl
    · cases ho
      simp only [Act.put, List.setIfInBounds_toArray, List.set_cons_zero, List.set_cons_succ] at hK
      clear hs
      go_simp
      all_goals (try go_wp2_with (first | (go_at_call 19; refine (vSub_d _ (by with_reducible assumption) (by with_reducible assumption) (by with_reducible assumption) (by with_reducible assumption)).mono ?_; rintro e w1 ⟨rfl, hb1⟩) | (go_at_call 20; refine (vSquare_d _ (by with_reducible assumption) (by with_reducible assumption) (by decide)).mono ?_; rintro e w1 ⟨rfl, hb1⟩)))
      all_goals first | exact hK.out _ _ rfl (bl_refl _) | exact hK.out _ _ rfl (by assumption) | exact hK.out _ _ (by assumption) (by assumption)
    · cases ho
      simp only [Act.put, List.setIfInBounds_toArray, List.set_cons_zero, List.set_cons_succ] at hK
      clear hs
      go_simp
      all_goals (try go_wp2_with (first | (go_at_call 19; refine (vSub_d _ (by with_reducible assumption) (by with_reducible assumption) (by with_reducible assumption) (by with_reducible assumption)).mono ?_; rintro e w1 ⟨rfl, hb1⟩) | (go_at_call 20; refine (vSquare_d _ (by with_reducible assumption) (by with_reducible assumption) (by decide)).mono ?_; rintro e w1 ⟨rfl, hb1⟩)))
      all_goals first | exact hK.out _ _ rfl (bl_refl _) | exact hK.out _ _ rfl (by assumption) | exact hK.out _ _ (by assumption) (by assumption)
    · cases ho
      have e1 : s 1 = _ := hs 1 (by decide) (by kernel_rfl)
      simp only [e1] at hK ⊢
      simp only [Act.put, List.setIfInBounds_toArray, List.set_cons_zero, List.set_cons_succ] at hK
      clear hs
      go_simp
      all_goals (try go_wp2_with (first | (go_at_call 19; refine (vSub_d _ (by with_reducible assumption) (by with_reducible assumption) (by with_reducible assumption) (by with_reducible assumption)).mono ?_; rintro e w1 ⟨rfl, hb1⟩) | (go_at_call 20; refine (vSquare_d _ (by with_reducible assumption) (by with_reducible assumption) (by decide)).mono ?_; rintro e w1 ⟨rfl, hb1⟩)))
      all_goals first | exact hK.out _ _ rfl (bl_refl _) | exact hK.out _ _ rfl (by assumption) | exact hK.out _ _ (by assumption) (by assumption)
    · cases ho
      have e0 : s 0 = _ := hs 0 (by decide) (by kernel_rfl)
      have e2 : s 2 = _ := hs 2 (by decide) (by kernel_rfl)
      simp only [e0, e2] at hK ⊢
      simp only [Act.put, List.setIfInBounds_toArray, List.set_cons_zero, List.set_cons_succ] at hK
      clear hs
      go_simp
      all_goals (try go_wp2_with (first | (go_at_call 19; refine (vSub_d _ (by with_reducible assumption) (by with_reducible assumption) (by with_reducible assumption) (by with_reducible assumption)).mono ?_; rintro e w1 ⟨rfl, hb1⟩) | (go_at_call 20; refine (vSquare_d _ (by with_reducible assumption) (by with_reducible assumption) (by decide)).mono ?_; rintro e w1 ⟨rfl, hb1⟩)))
      all_goals first | exact hK.out _ _ rfl (bl_refl _) | exact hK.out _ _ rfl (by assumption) | exact hK.out _ _ (by assumption) (by assumption)
    · cases ho
      have e3 : s 3 = _ := hs 3 (by decide) (by kernel_rfl)
      simp only [e3] at hK ⊢
      simp only [Act.put, List.setIfInBounds_toArray, List.set_cons_zero, List.set_cons_succ] at hK
      clear hs
      go_simp
      all_goals (try go_wp2_with (first | (go_at_call 19; refine (vSub_d _ (by with_reducible assumption) (by with_reducible assumption) (by with_reducible assumption) (by with_reducible assumption)).mono ?_; rintro e w1 ⟨rfl, hb1⟩) | (go_at_call 20; refine (vSquare_d _ (by with_reducible assumption) (by with_reducible assumption) (by decide)).mono ?_; rintro e w1 ⟨rfl, hb1⟩)))
      all_goals first | exact hK.out _ _ rfl (bl_refl _) | exact hK.out _ _ rfl (by assumption) | exact hK.out _ _ (by assumption) (by assumption)
    · cases ho
      simp only [Act.put, List.setIfInBounds_toArray, List.set_cons_zero, List.set_cons_succ] at hK
      clear hs
      go_simp
      all_goals (try go_wp2_with (first | (go_at_call 19; refine (vSub_d _ (by with_reducible assumption) (by with_reducible assumption) (by with_reducible assumption) (by with_reducible assumption)).mono ?_; rintro e w1 ⟨rfl, hb1⟩) | (go_at_call 20; refine (vSquare_d _ (by with_reducible assumption) (by with_reducible assumption) (by decide)).mono ?_; rintro e w1 ⟨rfl, hb1⟩)))
      all_goals first | exact hK.out _ _ rfl (bl_refl _) | exact hK.out _ _ rfl (by assumption) | exact hK.out _ _ (by assumption) (by assumption)
    · cases ho
      have e5 : s 5 = _ := hs 5 (by decide) (by kernel_rfl)
      simp only [e5] at hK ⊢
      simp only [Act.put, List.setIfInBounds_toArray, List.set_cons_zero, List.set_cons_succ] at hK
      clear hs
      go_simp
      all_goals (try go_wp2_with (first | (go_at_call 19; refine (vSub_d _ (by with_reducible assumption) (by with_reducible assumption) (by with_reducible assumption) (by with_reducible assumption)).mono ?_; rintro e w1 ⟨rfl, hb1⟩) | (go_at_call 20; refine (vSquare_d _ (by with_reducible assumption) (by with_reducible assumption) (by decide)).mono ?_; rintro e w1 ⟨rfl, hb1⟩)))
      all_goals first | exact hK.out _ _ rfl (bl_refl _) | exact hK.out _ _ rfl (by assumption) | exact hK.out _ _ (by assumption) (by assumption)
    · cases ho
      simp only [Act.put, List.setIfInBounds_toArray, List.set_cons_zero, List.set_cons_succ] at hK
      clear hs
      go_simp
      all_goals (try go_wp2_with (first | (go_at_call 19; refine (vSub_d _ (by with_reducible assumption) (by with_reducible assumption) (by with_reducible assumption) (by with_reducible assumption)).mono ?_; rintro e w1 ⟨rfl, hb1⟩) | (go_at_call 20; refine (vSquare_d _ (by with_reducible assumption) (by with_reducible assumption) (by decide)).mono ?_; rintro e w1 ⟨rfl, hb1⟩)))
      all_goals first | exact hK.out _ _ rfl (bl_refl _) | exact hK.out _ _ rfl (by assumption) | exact hK.out _ _ (by assumption) (by assumption)
    · cases ho
      have e7 : s 7 = _ := hs 7 (by decide) (by kernel_rfl)
      simp only [e7] at hK ⊢
      simp only [Act.put, List.setIfInBounds_toArray, List.set_cons_zero, List.set_cons_succ] at hK
      clear hs
      go_simp
      all_goals (try go_wp2_with (first | (go_at_call 19; refine (vSub_d _ (by with_reducible assumption) (by with_reducible assumption) (by with_reducible assumption) (by with_reducible assumption)).mono ?_; rintro e w1 ⟨rfl, hb1⟩) | (go_at_call 20; refine (vSquare_d _ (by with_reducible assumption) (by with_reducible assumption) (by decide)).mono ?_; rintro e w1 ⟨rfl, hb1⟩)))
      all_goals first | exact hK.out _ _ rfl (bl_refl _) | exact hK.out _ _ rfl (by assumption) | exact hK.out _ _ (by assumption) (by assumption)
    · cases ho
      have e6 : s 6 = _ := hs 6 (by decide) (by kernel_rfl)
      have e8 : s 8 = _ := hs 8 (by decide) (by kernel_rfl)
      simp only [e6, e8] at hK ⊢
      simp only [Act.put, List.setIfInBounds_toArray, List.set_cons_zero, List.set_cons_succ] at hK
      clear hs
      go_simp
      all_goals (try go_wp2_with (first | (go_at_call 19; refine (vSub_d _ (by with_reducible assumption) (by with_reducible assumption) (by with_reducible assumption) (by with_reducible assumption)).mono ?_; rintro e w1 ⟨rfl, hb1⟩) | (go_at_call 20; refine (vSquare_d _ (by with_reducible assumption) (by with_reducible assumption) (by decide)).mono ?_; rintro e w1 ⟨rfl, hb1⟩)))
      all_goals first | exact hK.out _ _ rfl (bl_refl _) | exact hK.out _ _ rfl (by assumption) | exact hK.out _ _ (by assumption) (by assumption)
    · cases ho
      have e4 : s 4 = _ := hs 4 (by decide) (by kernel_rfl)
      have e9 : s 9 = _ := hs 9 (by decide) (by kernel_rfl)
      simp only [e4, e9] at hK ⊢
      simp only [Act.put, List.setIfInBounds_toArray, List.set_cons_zero, List.set_cons_succ] at hK
      clear hs
      go_simp
      all_goals (try go_wp2_with (first | (go_at_call 19; refine (vSub_d _ (by with_reducible assumption) (by with_reducible assumption) (by with_reducible assumption) (by with_reducible assumption)).mono ?_; rintro e w1 ⟨rfl, hb1⟩) | (go_at_call 20; refine (vSquare_d _ (by with_reducible assumption) (by with_reducible assumption) (by decide)).mono ?_; rintro e w1 ⟨rfl, hb1⟩)))
      all_goals first | exact hK.out _ _ rfl (bl_refl _) | exact hK.out _ _ rfl (by assumption) | exact hK.out _ _ (by assumption) (by assumption)
    · cases ho
      have e10 : s 10 = _ := hs 10 (by decide) (by kernel_rfl)
      simp only [e10] at hK ⊢
      simp only [Act.put, List.setIfInBounds_toArray, List.set_cons_zero, List.set_cons_succ] at hK
      clear hs
      go_simp
      all_goals (try go_wp2_with (first | (go_at_call 19; refine (vSub_d _ (by with_reducible assumption) (by with_reducible assumption) (by with_reducible assumption) (by with_reducible assumption)).mono ?_; rintro e w1 ⟨rfl, hb1⟩) | (go_at_call 20; refine (vSquare_d _ (by with_reducible assumption) (by with_reducible assumption) (by decide)).mono ?_; rintro e w1 ⟨rfl, hb1⟩)))
      all_goals first | exact hK.out _ _ rfl (bl_refl _) | exact hK.out _ _ rfl (by assumption) | exact hK.out _ _ (by assumption) (by assumption)
  case ht_wf =>
    intro s hs W hb hJ
    have e0 : s 0 = _ := hs 0 (by decide)
    have e1 : s 1 = _ := hs 1 (by decide)
    have e2 : s 2 = _ := hs 2 (by decide)
    have e3 : s 3 = _ := hs 3 (by decide)
    have e4 : s 4 = _ := hs 4 (by decide)
    have e5 : s 5 = _ := hs 5 (by decide)
    have e6 : s 6 = _ := hs 6 (by decide)
    have e7 : s 7 = _ := hs 7 (by decide)
    have e8 : s 8 = _ := hs 8 (by decide)
    have e9 : s 9 = _ := hs 9 (by decide)
    have e10 : s 10 = _ := hs 10 (by decide)
    have e11 : s 11 = _ := hs 11 (by decide)
    simp only [e0, e1, e2, e3, e4, e5, e6, e7, e8, e9, e10, e11]
    clear hs
    refine tail_end ?_
    go_wp2
    go_ret
    exact ⟨rfl, bl_trans B0 hb⟩

theorem new2 (W : World) (t : TypeId) (x y : Value) : (W.alloc (.cells #[x, y] t)).cell? ⟨W.heap.size, 0, none⟩ = some x ∧ (W.alloc (.cells #[x, y] t)).cell? ⟨W.heap.size, 1, none⟩ = some y ∧ Bel W (W.alloc (.cells #[x, y] t)) :=
  ⟨by rw [World.cell?_alloc_new]; rfl, by rw [World.cell?_alloc_new]; rfl, bl_alloc (bl_refl W) _ _⟩

theorem clamp_num {n a : Nat} (w : World) (h : Bd n a) : Calls Tryz.prog 139 #[.float .f64 a, .float .f64 0, .float .f64 4607182418800017408] w fun e w' => e = .returned (.float .f64 (clK .f64 a 0 4607182418800017408)) ∧ Bel w w' := by
  exact (clamp_6 _ _ _ w).mono fun e w' h => ⟨h.1, h.2 ▸ bl_refl w⟩
set_option maxHeartbeats 2000000 in
theorem aNext_d (xs ys : Nat → Nat) (r p q : Nat) (w : World) (g : Gd xs ys 2) (h4 : Bd 40 p) (h5 : Bd 40 q) (hc : cpB (xs 0) (ys 0) (xs 1) (ys 1) = false) : Calls Tryz.prog 138 #[.agg #[.float .f64 (xs 0), .float .f64 (ys 0), .float .f64 (xs 1), .float .f64 (ys 1), .float .f64 r], .agg #[.float .f64 p, .float .f64 q]] w fun e w' => e = .returned (.agg #[.float .f64 (nxX xs ys p q), .float .f64 (nxY xs ys p q)]) ∧ Bel w w' := by
  obtain ⟨g1, g2⟩ := g 0 (by decide)
  obtain ⟨g3, g4⟩ := g 1 (by decide)
  obtain ⟨w1, w2⟩ := cw_bd g
  obtain ⟨t1, t2, t3⟩ := ct_bd g h4 h5 hc
  obtain ⟨_, l2⟩ := sq_low w1 w2 hc
  have s1 : Bd 42 (Dv .sub p (xs 0)) := bd_sub h4 g1 (by decide)
  have s2 : Bd 42 (Dv .sub q (ys 0)) := bd_sub h5 g2 (by decide)
  have d1 := bd_dt s1 s2 w1 w2 (by decide)
  have d2 := bd_dt w1 w2 w1 w2 (by decide)
  unfold cwK at w1 w2 t2 t3 l2 d1 d2
  have q1 := fun t W => run_quo_dv Tryz.prog t (dtK (Dv .sub p (xs 0)) (Dv .sub q (ys 0)) (Dv .sub (xs 1) (xs 0)) (Dv .sub (ys 1) (ys 0))) (dtK (Dv .sub (xs 1) (xs 0)) (Dv .sub (ys 1) (ys 0)) (Dv .sub (xs 1) (xs 0)) (Dv .sub (ys 1) (ys 0))) W d1.2.1 d2.2.1 l2
  have ef : clK .f64 (Dv .quo (dtK (Dv .sub p (xs 0)) (Dv .sub q (ys 0)) (Dv .sub (xs 1) (xs 0)) (Dv .sub (ys 1) (ys 0))) (dtK (Dv .sub (xs 1) (xs 0)) (Dv .sub (ys 1) (ys 0)) (Dv .sub (xs 1) (xs 0)) (Dv .sub (ys 1) (ys 0)))) 0 4607182418800017408 = ctK xs ys p q := rfl
  have z0_0 : (w.alloc (.cells #[.float .f64 (xs 0), .float .f64 (ys 0), .float .f64 (xs 1), .float .f64 (ys 1), .float .f64 r] 104)).cell? ⟨w.heap.size, 0, none⟩ = some (.float .f64 (xs 0)) := by rw [World.cell?_alloc_new]; rfl
  replace z0_0 := up_alloc (o := .cells #[.float .f64 p, .float .f64 q] 24) z0_0
  replace z0_0 := up_alloc (o := .cells #[.float .f64 0, .float .f64 0] 24) z0_0
  have z0_1 : (w.alloc (.cells #[.float .f64 (xs 0), .float .f64 (ys 0), .float .f64 (xs 1), .float .f64 (ys 1), .float .f64 r] 104)).cell? ⟨w.heap.size, 1, none⟩ = some (.float .f64 (ys 0)) := by rw [World.cell?_alloc_new]; rfl
  replace z0_1 := up_alloc (o := .cells #[.float .f64 p, .float .f64 q] 24) z0_1
  replace z0_1 := up_alloc (o := .cells #[.float .f64 0, .float .f64 0] 24) z0_1
  have z0_2 : (w.alloc (.cells #[.float .f64 (xs 0), .float .f64 (ys 0), .float .f64 (xs 1), .float .f64 (ys 1), .float .f64 r] 104)).cell? ⟨w.heap.size, 2, none⟩ = some (.float .f64 (xs 1)) := by rw [World.cell?_alloc_new]; rfl
  replace z0_2 := up_alloc (o := .cells #[.float .f64 p, .float .f64 q] 24) z0_2
  replace z0_2 := up_alloc (o := .cells #[.float .f64 0, .float .f64 0] 24) z0_2
  have z0_3 : (w.alloc (.cells #[.float .f64 (xs 0), .float .f64 (ys 0), .float .f64 (xs 1), .float .f64 (ys 1), .float .f64 r] 104)).cell? ⟨w.heap.size, 3, none⟩ = some (.float .f64 (ys 1)) := by rw [World.cell?_alloc_new]; rfl
  replace z0_3 := up_alloc (o := .cells #[.float .f64 p, .float .f64 q] 24) z0_3
  replace z0_3 := up_alloc (o := .cells #[.float .f64 0, .float .f64 0] 24) z0_3
  have z0_4 : (w.alloc (.cells #[.float .f64 (xs 0), .float .f64 (ys 0), .float .f64 (xs 1), .float .f64 (ys 1), .float .f64 r] 104)).cell? ⟨w.heap.size, 4, none⟩ = some (.float .f64 r) := by rw [World.cell?_alloc_new]; rfl
  replace z0_4 := up_alloc (o := .cells #[.float .f64 p, .float .f64 q] 24) z0_4
  replace z0_4 := up_alloc (o := .cells #[.float .f64 0, .float .f64 0] 24) z0_4
  have z1_0 : ((w.alloc (.cells #[.float .f64 (xs 0), .float .f64 (ys 0), .float .f64 (xs 1), .float .f64 (ys 1), .float .f64 r] 104)).alloc (.cells #[.float .f64 p, .float .f64 q] 24)).cell? ⟨w.heap.size + 1, 0, none⟩ = some (.float .f64 p) := by rw [← (show (w.alloc (.cells #[.float .f64 (xs 0), .float .f64 (ys 0), .float .f64 (xs 1), .float .f64 (ys 1), .float .f64 r] 104)).heap.size = w.heap.size + 1 by simp only [World.size_alloc]), World.cell?_alloc_new]; rfl
  replace z1_0 := up_alloc (o := .cells #[.float .f64 0, .float .f64 0] 24) z1_0
  have z1_1 : ((w.alloc (.cells #[.float .f64 (xs 0), .float .f64 (ys 0), .float .f64 (xs 1), .float .f64 (ys 1), .float .f64 r] 104)).alloc (.cells #[.float .f64 p, .float .f64 q] 24)).cell? ⟨w.heap.size + 1, 1, none⟩ = some (.float .f64 q) := by rw [← (show (w.alloc (.cells #[.float .f64 (xs 0), .float .f64 (ys 0), .float .f64 (xs 1), .float .f64 (ys 1), .float .f64 r] 104)).heap.size = w.heap.size + 1 by simp only [World.size_alloc]), World.cell?_alloc_new]; rfl
  replace z1_1 := up_alloc (o := .cells #[.float .f64 0, .float .f64 0] 24) z1_1
  have z2_0 : (((w.alloc (.cells #[.float .f64 (xs 0), .float .f64 (ys 0), .float .f64 (xs 1), .float .f64 (ys 1), .float .f64 r] 104)).alloc (.cells #[.float .f64 p, .float .f64 q] 24)).alloc (.cells #[.float .f64 0, .float .f64 0] 24)).cell? ⟨w.heap.size + 1 + 1, 0, none⟩ = some (.float .f64 0) := by rw [← (show ((w.alloc (.cells #[.float .f64 (xs 0), .float .f64 (ys 0), .float .f64 (xs 1), .float .f64 (ys 1), .float .f64 r] 104)).alloc (.cells #[.float .f64 p, .float .f64 q] 24)).heap.size = w.heap.size + 1 + 1 by simp only [World.size_alloc]), World.cell?_alloc_new]; rfl
  have z2_1 : (((w.alloc (.cells #[.float .f64 (xs 0), .float .f64 (ys 0), .float .f64 (xs 1), .float .f64 (ys 1), .float .f64 r] 104)).alloc (.cells #[.float .f64 p, .float .f64 q] 24)).alloc (.cells #[.float .f64 0, .float .f64 0] 24)).cell? ⟨w.heap.size + 1 + 1, 1, none⟩ = some (.float .f64 0) := by rw [← (show ((w.alloc (.cells #[.float .f64 (xs 0), .float .f64 (ys 0), .float .f64 (xs 1), .float .f64 (ys 1), .float .f64 r] 104)).alloc (.cells #[.float .f64 p, .float .f64 q] 24)).heap.size = w.heap.size + 1 + 1 by simp only [World.size_alloc]), World.cell?_alloc_new]; rfl
  have B0 : Bel w (((w.alloc (.cells #[.float .f64 (xs 0), .float .f64 (ys 0), .float .f64 (xs 1), .float .f64 (ys 1), .float .f64 r] 104)).alloc (.cells #[.float .f64 p, .float .f64 q] 24)).alloc (.cells #[.float .f64 0, .float .f64 0] 24)) := bl_alloc (bl_alloc (bl_alloc (bl_refl w) _ _) _ _) _ _
  go_enter Tryz.func138, Tryz.ntmps138
  go_wp2_with (first | (go_at_call 137; refine (way_d5 xs ys r _ g1 g2 g3 g4).mono ?_; rintro e wv ⟨rfl, hbv⟩))
  obtain ⟨r0, r1, Br⟩ := new2 wv 24 (.float .f64 (Dv .sub (xs 1) (xs 0))) (.float .f64 (Dv .sub (ys 1) (ys 0)))
  have Bu := bl_trans hbv Br
  have Bz := B0
  refine wp_region_multiA 11 (fun i v => match i with | 0 => v = .agg #[.float .f64 p, .float .f64 q] | 1 => v = .pointer (some ⟨w.heap.size, 0, none⟩) | 2 => v = .agg #[.float .f64 (xs 0), .float .f64 (ys 0)] | 3 => v = .agg #[.float .f64 (Dv .sub p (xs 0)), .float .f64 (Dv .sub q (ys 0))] | 4 => v = .agg #[.float .f64 (Dv .sub (xs 1) (xs 0)), .float .f64 (Dv .sub (ys 1) (ys 0))] | 5 => v = .float .f64 (dtK (Dv .sub p (xs 0)) (Dv .sub q (ys 0)) (Dv .sub (xs 1) (xs 0)) (Dv .sub (ys 1) (ys 0))) | 6 => v = .agg #[.float .f64 (Dv .sub (xs 1) (xs 0)), .float .f64 (Dv .sub (ys 1) (ys 0))] | 7 => v = .float .f64 (dtK (Dv .sub (xs 1) (xs 0)) (Dv .sub (ys 1) (ys 0)) (Dv .sub (xs 1) (xs 0)) (Dv .sub (ys 1) (ys 0))) | 8 => v = .float .f64 (Dv .quo (dtK (Dv .sub p (xs 0)) (Dv .sub q (ys 0)) (Dv .sub (xs 1) (xs 0)) (Dv .sub (ys 1) (ys 0))) (dtK (Dv .sub (xs 1) (xs 0)) (Dv .sub (ys 1) (ys 0)) (Dv .sub (xs 1) (xs 0)) (Dv .sub (ys 1) (ys 0)))) | 9 => v = .float .f64 (ctK xs ys p q) | 10 => v = .float .f64 (ctK xs ys p q) | _ => False) (fun i => match i with  | _ => none) ?A_wf (by kernel_rfl) (by kernel_rfl) ?hA_wf ?ha_wf ?hq_wf [] rfl ?ht_wf
  case hA_wf =>
    intro s
    simp only [putL, dstO, Act.put, List.getElem?_toArray, List.getElem?_cons_zero, List.getElem?_cons_succ, Option.bind_some, List.setIfInBounds_toArray, List.set_cons_zero, List.set_cons_succ, if_true]
    all_goals exact rfl
  case ha_wf =>
    intro i o ob hi ho hal
    rcases (show i = 0 ∨ i = 1 ∨ i = 2 ∨ i = 3 ∨ i = 4 ∨ i = 5 ∨ i = 6 ∨ i = 7 ∨ i = 8 ∨ i = 9 ∨ i = 10 by omega) with rfl | rfl | rfl | rfl | rfl | rfl | rfl | rfl | rfl | rfl | rfl
    · cases hal
    · cases hal
    · cases hal
    · cases hal
    · cases hal
    · cases hal
    · cases hal
    · cases hal
    · cases hal
    · cases hal
    · cases hal
  case hq_wf =>
    intro i o hi ho hal s hs W hb K hK
    have yz0_0 := keep (bl_trans Bu hb) z0_0; have yz0_1 := keep (bl_trans Bu hb) z0_1; have yz0_2 := keep (bl_trans Bu hb) z0_2; have yz0_3 := keep (bl_trans Bu hb) z0_3; have yz0_4 := keep (bl_trans Bu hb) z0_4; have yz1_0 := keep (bl_trans Bu hb) z1_0; have yz1_1 := keep (bl_trans Bu hb) z1_1; have yz2_0 := keep (bl_trans Bu hb) z2_0; have yz2_1 := keep (bl_trans Bu hb) z2_1; have v0 := keep hb r0; have v1 := keep hb r1
    rcases (show i = 0 ∨ i = 1 ∨ i = 2 ∨ i = 3 ∨ i = 4 ∨ i = 5 ∨ i = 6 ∨ i = 7 ∨ i = 8 ∨ i = 9 ∨ i = 10 by omega) with rfl | rfl | rfl | rfl | rfl | rfl | rfl | rfl | rfl | rfl | rfl
    · cases ho
      simp only [Act.put, List.setIfInBounds_toArray, List.set_cons_zero, List.set_cons_succ] at hK
      clear hs
      go_simp
      all_goals (try go_wp2_with (first | (go_at_call 19; refine (vSub_d _ (by with_reducible assumption) (by with_reducible assumption) (by with_reducible assumption) (by with_reducible assumption)).mono ?_; rintro e w1 ⟨rfl, hb1⟩) | (go_at_call 21; refine (vDot_d _ (by with_reducible assumption) (by with_reducible assumption) (by with_reducible assumption) (by with_reducible assumption) (by decide)).mono ?_; rintro e w1 ⟨rfl, hb1⟩) | (go_at_call 20; refine (vSquare_d _ (by with_reducible assumption) (by with_reducible assumption) (by decide)).mono ?_; rintro e w1 ⟨rfl, hb1⟩) | (go_at_call 139; refine (clamp_num _ (by with_reducible assumption)).mono ?_; rintro e w1 ⟨rfl, hb1⟩)))
      all_goals first | exact hK.out _ _ rfl (bl_refl _) | exact hK.out _ _ rfl (by assumption) | exact hK.out _ _ (by assumption) (by assumption)
    · cases ho
      simp only [Act.put, List.setIfInBounds_toArray, List.set_cons_zero, List.set_cons_succ] at hK
      clear hs
      go_simp
      all_goals (try go_wp2_with (first | (go_at_call 19; refine (vSub_d _ (by with_reducible assumption) (by with_reducible assumption) (by with_reducible assumption) (by with_reducible assumption)).mono ?_; rintro e w1 ⟨rfl, hb1⟩) | (go_at_call 21; refine (vDot_d _ (by with_reducible assumption) (by with_reducible assumption) (by with_reducible assumption) (by with_reducible assumption) (by decide)).mono ?_; rintro e w1 ⟨rfl, hb1⟩) | (go_at_call 20; refine (vSquare_d _ (by with_reducible assumption) (by with_reducible assumption) (by decide)).mono ?_; rintro e w1 ⟨rfl, hb1⟩) | (go_at_call 139; refine (clamp_num _ (by with_reducible assumption)).mono ?_; rintro e w1 ⟨rfl, hb1⟩)))
      all_goals first | exact hK.out _ _ rfl (bl_refl _) | exact hK.out _ _ rfl (by assumption) | exact hK.out _ _ (by assumption) (by assumption)
    · cases ho
      have e1 : s 1 = _ := hs 1 (by decide) (by kernel_rfl)
      simp only [e1] at hK ⊢
      simp only [Act.put, List.setIfInBounds_toArray, List.set_cons_zero, List.set_cons_succ] at hK
      clear hs
      go_simp
      all_goals (try go_wp2_with (first | (go_at_call 19; refine (vSub_d _ (by with_reducible assumption) (by with_reducible assumption) (by with_reducible assumption) (by with_reducible assumption)).mono ?_; rintro e w1 ⟨rfl, hb1⟩) | (go_at_call 21; refine (vDot_d _ (by with_reducible assumption) (by with_reducible assumption) (by with_reducible assumption) (by with_reducible assumption) (by decide)).mono ?_; rintro e w1 ⟨rfl, hb1⟩) | (go_at_call 20; refine (vSquare_d _ (by with_reducible assumption) (by with_reducible assumption) (by decide)).mono ?_; rintro e w1 ⟨rfl, hb1⟩) | (go_at_call 139; refine (clamp_num _ (by with_reducible assumption)).mono ?_; rintro e w1 ⟨rfl, hb1⟩)))
      all_goals first | exact hK.out _ _ rfl (bl_refl _) | exact hK.out _ _ rfl (by assumption) | exact hK.out _ _ (by assumption) (by assumption)
    · cases ho
      have e0 : s 0 = _ := hs 0 (by decide) (by kernel_rfl)
      have e2 : s 2 = _ := hs 2 (by decide) (by kernel_rfl)
      simp only [e0, e2] at hK ⊢
      simp only [Act.put, List.setIfInBounds_toArray, List.set_cons_zero, List.set_cons_succ] at hK
      clear hs
      go_simp
      all_goals (try go_wp2_with (first | (go_at_call 19; refine (vSub_d _ (by with_reducible assumption) (by with_reducible assumption) (by with_reducible assumption) (by with_reducible assumption)).mono ?_; rintro e w1 ⟨rfl, hb1⟩) | (go_at_call 21; refine (vDot_d _ (by with_reducible assumption) (by with_reducible assumption) (by with_reducible assumption) (by with_reducible assumption) (by decide)).mono ?_; rintro e w1 ⟨rfl, hb1⟩) | (go_at_call 20; refine (vSquare_d _ (by with_reducible assumption) (by with_reducible assumption) (by decide)).mono ?_; rintro e w1 ⟨rfl, hb1⟩) | (go_at_call 139; refine (clamp_num _ (by with_reducible assumption)).mono ?_; rintro e w1 ⟨rfl, hb1⟩)))
      all_goals first | exact hK.out _ _ rfl (bl_refl _) | exact hK.out _ _ rfl (by assumption) | exact hK.out _ _ (by assumption) (by assumption)
    · cases ho
      simp only [Act.put, List.setIfInBounds_toArray, List.set_cons_zero, List.set_cons_succ] at hK
      clear hs
      go_simp
      all_goals (try go_wp2_with (first | (go_at_call 19; refine (vSub_d _ (by with_reducible assumption) (by with_reducible assumption) (by with_reducible assumption) (by with_reducible assumption)).mono ?_; rintro e w1 ⟨rfl, hb1⟩) | (go_at_call 21; refine (vDot_d _ (by with_reducible assumption) (by with_reducible assumption) (by with_reducible assumption) (by with_reducible assumption) (by decide)).mono ?_; rintro e w1 ⟨rfl, hb1⟩) | (go_at_call 20; refine (vSquare_d _ (by with_reducible assumption) (by with_reducible assumption) (by decide)).mono ?_; rintro e w1 ⟨rfl, hb1⟩) | (go_at_call 139; refine (clamp_num _ (by with_reducible assumption)).mono ?_; rintro e w1 ⟨rfl, hb1⟩)))
      all_goals first | exact hK.out _ _ rfl (bl_refl _) | exact hK.out _ _ rfl (by assumption) | exact hK.out _ _ (by assumption) (by assumption)
    · cases ho
      have e3 : s 3 = _ := hs 3 (by decide) (by kernel_rfl)
      have e4 : s 4 = _ := hs 4 (by decide) (by kernel_rfl)
      simp only [e3, e4] at hK ⊢
      simp only [Act.put, List.setIfInBounds_toArray, List.set_cons_zero, List.set_cons_succ] at hK
      clear hs
      go_simp
      all_goals (try go_wp2_with (first | (go_at_call 19; refine (vSub_d _ (by with_reducible assumption) (by with_reducible assumption) (by with_reducible assumption) (by with_reducible assumption)).mono ?_; rintro e w1 ⟨rfl, hb1⟩) | (go_at_call 21; refine (vDot_d _ (by with_reducible assumption) (by with_reducible assumption) (by with_reducible assumption) (by with_reducible assumption) (by decide)).mono ?_; rintro e w1 ⟨rfl, hb1⟩) | (go_at_call 20; refine (vSquare_d _ (by with_reducible assumption) (by with_reducible assumption) (by decide)).mono ?_; rintro e w1 ⟨rfl, hb1⟩) | (go_at_call 139; refine (clamp_num _ (by with_reducible assumption)).mono ?_; rintro e w1 ⟨rfl, hb1⟩)))
      all_goals first | exact hK.out _ _ rfl (bl_refl _) | exact hK.out _ _ rfl (by assumption) | exact hK.out _ _ (by assumption) (by assumption)
    · cases ho
      simp only [Act.put, List.setIfInBounds_toArray, List.set_cons_zero, List.set_cons_succ] at hK
      clear hs
      go_simp
      all_goals (try go_wp2_with (first | (go_at_call 19; refine (vSub_d _ (by with_reducible assumption) (by with_reducible assumption) (by with_reducible assumption) (by with_reducible assumption)).mono ?_; rintro e w1 ⟨rfl, hb1⟩) | (go_at_call 21; refine (vDot_d _ (by with_reducible assumption) (by with_reducible assumption) (by with_reducible assumption) (by with_reducible assumption) (by decide)).mono ?_; rintro e w1 ⟨rfl, hb1⟩) | (go_at_call 20; refine (vSquare_d _ (by with_reducible assumption) (by with_reducible assumption) (by decide)).mono ?_; rintro e w1 ⟨rfl, hb1⟩) | (go_at_call 139; refine (clamp_num _ (by with_reducible assumption)).mono ?_; rintro e w1 ⟨rfl, hb1⟩)))
      all_goals first | exact hK.out _ _ rfl (bl_refl _) | exact hK.out _ _ rfl (by assumption) | exact hK.out _ _ (by assumption) (by assumption)
    · cases ho
      have e6 : s 6 = _ := hs 6 (by decide) (by kernel_rfl)
      simp only [e6] at hK ⊢
      simp only [Act.put, List.setIfInBounds_toArray, List.set_cons_zero, List.set_cons_succ] at hK
      clear hs
      go_simp
      all_goals (try go_wp2_with (first | (go_at_call 19; refine (vSub_d _ (by with_reducible assumption) (by with_reducible assumption) (by with_reducible assumption) (by with_reducible assumption)).mono ?_; rintro e w1 ⟨rfl, hb1⟩) | (go_at_call 21; refine (vDot_d _ (by with_reducible assumption) (by with_reducible assumption) (by with_reducible assumption) (by with_reducible assumption) (by decide)).mono ?_; rintro e w1 ⟨rfl, hb1⟩) | (go_at_call 20; refine (vSquare_d _ (by with_reducible assumption) (by with_reducible assumption) (by decide)).mono ?_; rintro e w1 ⟨rfl, hb1⟩) | (go_at_call 139; refine (clamp_num _ (by with_reducible assumption)).mono ?_; rintro e w1 ⟨rfl, hb1⟩)))
      all_goals first | exact hK.out _ _ rfl (bl_refl _) | exact hK.out _ _ rfl (by assumption) | exact hK.out _ _ (by assumption) (by assumption)
    · cases ho
      have e5 : s 5 = _ := hs 5 (by decide) (by kernel_rfl)
      have e7 : s 7 = _ := hs 7 (by decide) (by kernel_rfl)
      simp only [e5, e7] at hK ⊢
      simp only [Act.put, List.setIfInBounds_toArray, List.set_cons_zero, List.set_cons_succ] at hK
      clear hs
      go_simp
      all_goals (try go_wp2_with (first | (go_at_call 19; refine (vSub_d _ (by with_reducible assumption) (by with_reducible assumption) (by with_reducible assumption) (by with_reducible assumption)).mono ?_; rintro e w1 ⟨rfl, hb1⟩) | (go_at_call 21; refine (vDot_d _ (by with_reducible assumption) (by with_reducible assumption) (by with_reducible assumption) (by with_reducible assumption) (by decide)).mono ?_; rintro e w1 ⟨rfl, hb1⟩) | (go_at_call 20; refine (vSquare_d _ (by with_reducible assumption) (by with_reducible assumption) (by decide)).mono ?_; rintro e w1 ⟨rfl, hb1⟩) | (go_at_call 139; refine (clamp_num _ (by with_reducible assumption)).mono ?_; rintro e w1 ⟨rfl, hb1⟩)))
      all_goals first | exact hK.out _ _ rfl (bl_refl _) | exact hK.out _ _ rfl (by assumption) | exact hK.out _ _ (by assumption) (by assumption)
    · cases ho
      have e8 : s 8 = _ := hs 8 (by decide) (by kernel_rfl)
      simp only [e8] at hK ⊢
      simp only [Act.put, List.setIfInBounds_toArray, List.set_cons_zero, List.set_cons_succ] at hK
      clear hs
      go_simp
      all_goals (try go_wp2_with (first | (go_at_call 19; refine (vSub_d _ (by with_reducible assumption) (by with_reducible assumption) (by with_reducible assumption) (by with_reducible assumption)).mono ?_; rintro e w1 ⟨rfl, hb1⟩) | (go_at_call 21; refine (vDot_d _ (by with_reducible assumption) (by with_reducible assumption) (by with_reducible assumption) (by with_reducible assumption) (by decide)).mono ?_; rintro e w1 ⟨rfl, hb1⟩) | (go_at_call 20; refine (vSquare_d _ (by with_reducible assumption) (by with_reducible assumption) (by decide)).mono ?_; rintro e w1 ⟨rfl, hb1⟩) | (go_at_call 139; refine (clamp_num _ (by with_reducible assumption)).mono ?_; rintro e w1 ⟨rfl, hb1⟩)))
      all_goals first | exact hK.out _ _ rfl (bl_refl _) | exact hK.out _ _ rfl (by assumption) | exact hK.out _ _ (by assumption) (by assumption)
    · cases ho
      have e9 : s 9 = _ := hs 9 (by decide) (by kernel_rfl)
      simp only [e9] at hK ⊢
      simp only [Act.put, List.setIfInBounds_toArray, List.set_cons_zero, List.set_cons_succ] at hK
      clear hs
      go_simp
      all_goals (try go_wp2_with (first | (go_at_call 19; refine (vSub_d _ (by with_reducible assumption) (by with_reducible assumption) (by with_reducible assumption) (by with_reducible assumption)).mono ?_; rintro e w1 ⟨rfl, hb1⟩) | (go_at_call 21; refine (vDot_d _ (by with_reducible assumption) (by with_reducible assumption) (by with_reducible assumption) (by with_reducible assumption) (by decide)).mono ?_; rintro e w1 ⟨rfl, hb1⟩) | (go_at_call 20; refine (vSquare_d _ (by with_reducible assumption) (by with_reducible assumption) (by decide)).mono ?_; rintro e w1 ⟨rfl, hb1⟩) | (go_at_call 139; refine (clamp_num _ (by with_reducible assumption)).mono ?_; rintro e w1 ⟨rfl, hb1⟩)))
      all_goals first | exact hK.out _ _ rfl (bl_refl _) | exact hK.out _ _ rfl (by assumption) | exact hK.out _ _ (by assumption) (by assumption)
  case ht_wf =>
    intro s hs W hb hJ
    have e0 : s 0 = _ := hs 0 (by decide)
    have e1 : s 1 = _ := hs 1 (by decide)
    have e2 : s 2 = _ := hs 2 (by decide)
    have e3 : s 3 = _ := hs 3 (by decide)
    have e4 : s 4 = _ := hs 4 (by decide)
    have e5 : s 5 = _ := hs 5 (by decide)
    have e6 : s 6 = _ := hs 6 (by decide)
    have e7 : s 7 = _ := hs 7 (by decide)
    have e8 : s 8 = _ := hs 8 (by decide)
    have e9 : s 9 = _ := hs 9 (by decide)
    have e10 : s 10 = _ := hs 10 (by decide)
    simp only [e0, e1, e2, e3, e4, e5, e6, e7, e8, e9, e10]
    clear hs
    refine tail_end ?_
    have BT := bl_trans Bu hb
    have yz0_0 := keep BT z0_0
    have yz0_1 := keep BT z0_1
    have yz0_2 := keep BT z0_2
    have yz0_3 := keep BT z0_3
    have yz0_4 := keep BT z0_4
    have yz1_0 := keep BT z1_0
    have yz1_1 := keep BT z1_1
    have yz2_0 := keep BT z2_0
    have yz2_1 := keep BT z2_1
    have v0 := keep hb r0
    have v1 := keep hb r1
    go_wp2_with (first | (go_at_call 26; refine (vMore_d _ (by with_reducible assumption) (by with_reducible assumption) (by with_reducible assumption) (by with_reducible assumption) (by with_reducible assumption) (by decide)).mono ?_; rintro e w9 ⟨rfl, hb9⟩; have K0 := keep hb9 yz2_0; have K1 := keep hb9 yz2_1; have Z := fun o => ((bl_trans (bl_trans Bz BT) hb9).2 ⟨w.heap.size + 1 + 1, o, none⟩).trans (fresh_frozen (by show _ ≤ _; omega))))
    obtain ⟨R0, R1⟩ := set2 (p := .float .f64 (moK (xs 0) (ctK xs ys p q) (Dv .sub (xs 1) (xs 0)))) (q := .float .f64 (moK (ys 0) (ctK xs ys p q) (Dv .sub (ys 1) (ys 0)))) K0 K1
    refine bodyPost_ret (v := .agg #[.float .f64 _, .float .f64 _]) (by simp [R0, R1, results, Tryz.results138, go_sem] <;> (first | exact ⟨rfl, rfl⟩ | rfl)) rfl ⟨rfl, ?_⟩
    repeat (first | exact bl_refl _ | assumption | apply bl_drewN | apply bl_drew | apply bl_alloc | refine bl_set ?_ (by simp <;> omega) | refine bl_trans ?_ (by assumption))

theorem nx_bd {xs ys : Nat → Nat} {p q : Nat} (g : Gd xs ys 2) (h4 : Bd 40 p) (h5 : Bd 40 q) (hc : cpB (xs 0) (ys 0) (xs 1) (ys 1) = false) : Bd 200 (nxX xs ys p q) ∧ Bd 200 (nxY xs ys p q) := by
  obtain ⟨g1, g2⟩ := g 0 (by decide)
  obtain ⟨w1, w2⟩ := cw_bd g
  obtain ⟨t1, _, _⟩ := ct_bd g h4 h5 hc
  exact ⟨wbd (bd_add (n := 196) (wbd g1 196 (by decide)) (bd_mul t1 w1 (by decide)) (by decide)) 200 (by decide), wbd (bd_add (n := 196) (wbd g2 196 (by decide)) (bd_mul t1 w2 (by decide)) (by decide)) 200 (by decide)⟩
set_option maxHeartbeats 1000000 in
theorem aHas_d (xs ys : Nat → Nat) (r p q : Nat) (w : World) (g : Gd xs ys 2) (hr : Bd 40 r) (h4 : Bd 40 p) (h5 : Bd 40 q) (hc : cpB (xs 0) (ys 0) (xs 1) (ys 1) = false) : Calls Tryz.prog 135 #[.agg #[.float .f64 (xs 0), .float .f64 (ys 0), .float .f64 (xs 1), .float .f64 (ys 1), .float .f64 r], .agg #[.float .f64 p, .float .f64 q]] w fun e w' => e = .returned (.bool (hcB (nxX xs ys p q) (nxY xs ys p q) r p q)) ∧ Bel w w' := by
  obtain ⟨n1, n2⟩ := nx_bd g h4 h5 hc
  have z0_0 : (w.alloc (.cells #[.float .f64 (xs 0), .float .f64 (ys 0), .float .f64 (xs 1), .float .f64 (ys 1), .float .f64 r] 104)).cell? ⟨w.heap.size, 0, none⟩ = some (.float .f64 (xs 0)) := by rw [World.cell?_alloc_new]; rfl
  replace z0_0 := up_alloc (o := .cells #[.float .f64 p, .float .f64 q] 24) z0_0
  have z0_1 : (w.alloc (.cells #[.float .f64 (xs 0), .float .f64 (ys 0), .float .f64 (xs 1), .float .f64 (ys 1), .float .f64 r] 104)).cell? ⟨w.heap.size, 1, none⟩ = some (.float .f64 (ys 0)) := by rw [World.cell?_alloc_new]; rfl
  replace z0_1 := up_alloc (o := .cells #[.float .f64 p, .float .f64 q] 24) z0_1
  have z0_2 : (w.alloc (.cells #[.float .f64 (xs 0), .float .f64 (ys 0), .float .f64 (xs 1), .float .f64 (ys 1), .float .f64 r] 104)).cell? ⟨w.heap.size, 2, none⟩ = some (.float .f64 (xs 1)) := by rw [World.cell?_alloc_new]; rfl
  replace z0_2 := up_alloc (o := .cells #[.float .f64 p, .float .f64 q] 24) z0_2
  have z0_3 : (w.alloc (.cells #[.float .f64 (xs 0), .float .f64 (ys 0), .float .f64 (xs 1), .float .f64 (ys 1), .float .f64 r] 104)).cell? ⟨w.heap.size, 3, none⟩ = some (.float .f64 (ys 1)) := by rw [World.cell?_alloc_new]; rfl
  replace z0_3 := up_alloc (o := .cells #[.float .f64 p, .float .f64 q] 24) z0_3
  have z0_4 : (w.alloc (.cells #[.float .f64 (xs 0), .float .f64 (ys 0), .float .f64 (xs 1), .float .f64 (ys 1), .float .f64 r] 104)).cell? ⟨w.heap.size, 4, none⟩ = some (.float .f64 r) := by rw [World.cell?_alloc_new]; rfl
  replace z0_4 := up_alloc (o := .cells #[.float .f64 p, .float .f64 q] 24) z0_4
  have z1_0 : ((w.alloc (.cells #[.float .f64 (xs 0), .float .f64 (ys 0), .float .f64 (xs 1), .float .f64 (ys 1), .float .f64 r] 104)).alloc (.cells #[.float .f64 p, .float .f64 q] 24)).cell? ⟨w.heap.size + 1, 0, none⟩ = some (.float .f64 p) := by rw [← (show (w.alloc (.cells #[.float .f64 (xs 0), .float .f64 (ys 0), .float .f64 (xs 1), .float .f64 (ys 1), .float .f64 r] 104)).heap.size = w.heap.size + 1 by simp only [World.size_alloc]), World.cell?_alloc_new]; rfl
  have z1_1 : ((w.alloc (.cells #[.float .f64 (xs 0), .float .f64 (ys 0), .float .f64 (xs 1), .float .f64 (ys 1), .float .f64 r] 104)).alloc (.cells #[.float .f64 p, .float .f64 q] 24)).cell? ⟨w.heap.size + 1, 1, none⟩ = some (.float .f64 q) := by rw [← (show (w.alloc (.cells #[.float .f64 (xs 0), .float .f64 (ys 0), .float .f64 (xs 1), .float .f64 (ys 1), .float .f64 r] 104)).heap.size = w.heap.size + 1 by simp only [World.size_alloc]), World.cell?_alloc_new]; rfl
  have B0 : Bel w ((w.alloc (.cells #[.float .f64 (xs 0), .float .f64 (ys 0), .float .f64 (xs 1), .float .f64 (ys 1), .float .f64 r] 104)).alloc (.cells #[.float .f64 p, .float .f64 q] 24)) := bl_alloc (bl_alloc (bl_refl w) _ _) _ _
  go_enter Tryz.func135, Tryz.ntmps135
  go_wp2
  refine wp_region_multiA 9 (fun i v => match i with | 0 => v = .agg #[.float .f64 (xs 0), .float .f64 (ys 0), .float .f64 (xs 1), .float .f64 (ys 1), .float .f64 r] | 1 => v = .agg #[.float .f64 p, .float .f64 q] | 2 => v = .agg #[.float .f64 (nxX xs ys p q), .float .f64 (nxY xs ys p q)] | 3 => v = .pointer (some ⟨w.heap.size, 4, none⟩) | 4 => v = .float .f64 r | 5 => v = .agg #[.float .f64 (nxX xs ys p q), .float .f64 (nxY xs ys p q), .float .f64 r] | 6 => v = .agg #[.float .f64 p, .float .f64 q] | 7 => v = .bool (hcB (nxX xs ys p q) (nxY xs ys p q) r p q) | 8 => v = .bool (hcB (nxX xs ys p q) (nxY xs ys p q) r p q) | _ => False) (fun i => match i with  | _ => none) ?A_wf (by kernel_rfl) (by kernel_rfl) ?hA_wf ?ha_wf ?hq_wf [] rfl ?ht_wf
  case hA_wf =>
    intro s
    simp only [putL, dstO, Act.put, List.getElem?_toArray, List.getElem?_cons_zero, List.getElem?_cons_succ, Option.bind_some, List.setIfInBounds_toArray, List.set_cons_zero, List.set_cons_succ, if_true]
    all_goals exact rfl
  case ha_wf =>
    intro i o ob hi ho hal
    rcases (show i = 0 ∨ i = 1 ∨ i = 2 ∨ i = 3 ∨ i = 4 ∨ i = 5 ∨ i = 6 ∨ i = 7 ∨ i = 8 by omega) with rfl | rfl | rfl | rfl | rfl | rfl | rfl | rfl | rfl
    · cases hal
    · cases hal
    · cases hal
    · cases hal
    · cases hal
    · cases hal
    · cases hal
    · cases hal
    · cases hal
  case hq_wf =>
    intro i o hi ho hal s hs W hb K hK
    have yz0_0 := keep hb z0_0; have yz0_1 := keep hb z0_1; have yz0_2 := keep hb z0_2; have yz0_3 := keep hb z0_3; have yz0_4 := keep hb z0_4; have yz1_0 := keep hb z1_0; have yz1_1 := keep hb z1_1
    rcases (show i = 0 ∨ i = 1 ∨ i = 2 ∨ i = 3 ∨ i = 4 ∨ i = 5 ∨ i = 6 ∨ i = 7 ∨ i = 8 by omega) with rfl | rfl | rfl | rfl | rfl | rfl | rfl | rfl | rfl
    · cases ho
      simp only [Act.put, List.setIfInBounds_toArray, List.set_cons_zero, List.set_cons_succ] at hK
      clear hs
      go_simp
      all_goals (try go_wp2_with (first | (go_at_call 138; refine (aNext_d xs ys r p q _ g h4 h5 hc).mono ?_; rintro e w1 ⟨rfl, hb1⟩) | (go_at_call 131; refine (cHas_d _ _ _ _ _ _ n1 n2 hr (wbd h4 200 (by decide)) (wbd h5 200 (by decide))).mono ?_; rintro e w1 ⟨rfl, hb1⟩)))
      all_goals first | exact hK.out _ _ rfl (bl_refl _) | exact hK.out _ _ rfl (by assumption) | exact hK.out _ _ (by assumption) (by assumption)
    · cases ho
      simp only [Act.put, List.setIfInBounds_toArray, List.set_cons_zero, List.set_cons_succ] at hK
      clear hs
      go_simp
      all_goals (try go_wp2_with (first | (go_at_call 138; refine (aNext_d xs ys r p q _ g h4 h5 hc).mono ?_; rintro e w1 ⟨rfl, hb1⟩) | (go_at_call 131; refine (cHas_d _ _ _ _ _ _ n1 n2 hr (wbd h4 200 (by decide)) (wbd h5 200 (by decide))).mono ?_; rintro e w1 ⟨rfl, hb1⟩)))
      all_goals first | exact hK.out _ _ rfl (bl_refl _) | exact hK.out _ _ rfl (by assumption) | exact hK.out _ _ (by assumption) (by assumption)
    · cases ho
      have e0 : s 0 = _ := hs 0 (by decide) (by kernel_rfl)
      have e1 : s 1 = _ := hs 1 (by decide) (by kernel_rfl)
      simp only [e0, e1] at hK ⊢
      simp only [Act.put, List.setIfInBounds_toArray, List.set_cons_zero, List.set_cons_succ] at hK
      clear hs
      go_simp
      all_goals (try go_wp2_with (first | (go_at_call 138; refine (aNext_d xs ys r p q _ g h4 h5 hc).mono ?_; rintro e w1 ⟨rfl, hb1⟩) | (go_at_call 131; refine (cHas_d _ _ _ _ _ _ n1 n2 hr (wbd h4 200 (by decide)) (wbd h5 200 (by decide))).mono ?_; rintro e w1 ⟨rfl, hb1⟩)))
      all_goals first | exact hK.out _ _ rfl (bl_refl _) | exact hK.out _ _ rfl (by assumption) | exact hK.out _ _ (by assumption) (by assumption)
    · cases ho
      simp only [Act.put, List.setIfInBounds_toArray, List.set_cons_zero, List.set_cons_succ] at hK
      clear hs
      go_simp
      all_goals (try go_wp2_with (first | (go_at_call 138; refine (aNext_d xs ys r p q _ g h4 h5 hc).mono ?_; rintro e w1 ⟨rfl, hb1⟩) | (go_at_call 131; refine (cHas_d _ _ _ _ _ _ n1 n2 hr (wbd h4 200 (by decide)) (wbd h5 200 (by decide))).mono ?_; rintro e w1 ⟨rfl, hb1⟩)))
      all_goals first | exact hK.out _ _ rfl (bl_refl _) | exact hK.out _ _ rfl (by assumption) | exact hK.out _ _ (by assumption) (by assumption)
    · cases ho
      have e3 : s 3 = _ := hs 3 (by decide) (by kernel_rfl)
      simp only [e3] at hK ⊢
      simp only [Act.put, List.setIfInBounds_toArray, List.set_cons_zero, List.set_cons_succ] at hK
      clear hs
      go_simp
      all_goals (try go_wp2_with (first | (go_at_call 138; refine (aNext_d xs ys r p q _ g h4 h5 hc).mono ?_; rintro e w1 ⟨rfl, hb1⟩) | (go_at_call 131; refine (cHas_d _ _ _ _ _ _ n1 n2 hr (wbd h4 200 (by decide)) (wbd h5 200 (by decide))).mono ?_; rintro e w1 ⟨rfl, hb1⟩)))
      all_goals first | exact hK.out _ _ rfl (bl_refl _) | exact hK.out _ _ rfl (by assumption) | exact hK.out _ _ (by assumption) (by assumption)
    · cases ho
      have e2 : s 2 = _ := hs 2 (by decide) (by kernel_rfl)
      have e4 : s 4 = _ := hs 4 (by decide) (by kernel_rfl)
      simp only [e2, e4] at hK ⊢
      simp only [Act.put, List.setIfInBounds_toArray, List.set_cons_zero, List.set_cons_succ] at hK
      clear hs
      go_simp
      all_goals (try go_wp2_with (first | (go_at_call 138; refine (aNext_d xs ys r p q _ g h4 h5 hc).mono ?_; rintro e w1 ⟨rfl, hb1⟩) | (go_at_call 131; refine (cHas_d _ _ _ _ _ _ n1 n2 hr (wbd h4 200 (by decide)) (wbd h5 200 (by decide))).mono ?_; rintro e w1 ⟨rfl, hb1⟩)))
      all_goals first | exact hK.out _ _ rfl (bl_refl _) | exact hK.out _ _ rfl (by assumption) | exact hK.out _ _ (by assumption) (by assumption)
    · cases ho
      simp only [Act.put, List.setIfInBounds_toArray, List.set_cons_zero, List.set_cons_succ] at hK
      clear hs
      go_simp
      all_goals (try go_wp2_with (first | (go_at_call 138; refine (aNext_d xs ys r p q _ g h4 h5 hc).mono ?_; rintro e w1 ⟨rfl, hb1⟩) | (go_at_call 131; refine (cHas_d _ _ _ _ _ _ n1 n2 hr (wbd h4 200 (by decide)) (wbd h5 200 (by decide))).mono ?_; rintro e w1 ⟨rfl, hb1⟩)))
      all_goals first | exact hK.out _ _ rfl (bl_refl _) | exact hK.out _ _ rfl (by assumption) | exact hK.out _ _ (by assumption) (by assumption)
    · cases ho
      have e5 : s 5 = _ := hs 5 (by decide) (by kernel_rfl)
      have e6 : s 6 = _ := hs 6 (by decide) (by kernel_rfl)
      simp only [e5, e6] at hK ⊢
      simp only [Act.put, List.setIfInBounds_toArray, List.set_cons_zero, List.set_cons_succ] at hK
      clear hs
      go_simp
      all_goals (try go_wp2_with (first | (go_at_call 138; refine (aNext_d xs ys r p q _ g h4 h5 hc).mono ?_; rintro e w1 ⟨rfl, hb1⟩) | (go_at_call 131; refine (cHas_d _ _ _ _ _ _ n1 n2 hr (wbd h4 200 (by decide)) (wbd h5 200 (by decide))).mono ?_; rintro e w1 ⟨rfl, hb1⟩)))
      all_goals first | exact hK.out _ _ rfl (bl_refl _) | exact hK.out _ _ rfl (by assumption) | exact hK.out _ _ (by assumption) (by assumption)
    · cases ho
      have e7 : s 7 = _ := hs 7 (by decide) (by kernel_rfl)
      simp only [e7] at hK ⊢
      simp only [Act.put, List.setIfInBounds_toArray, List.set_cons_zero, List.set_cons_succ] at hK
      clear hs
      go_simp
      all_goals (try go_wp2_with (first | (go_at_call 138; refine (aNext_d xs ys r p q _ g h4 h5 hc).mono ?_; rintro e w1 ⟨rfl, hb1⟩) | (go_at_call 131; refine (cHas_d _ _ _ _ _ _ n1 n2 hr (wbd h4 200 (by decide)) (wbd h5 200 (by decide))).mono ?_; rintro e w1 ⟨rfl, hb1⟩)))
      all_goals first | exact hK.out _ _ rfl (bl_refl _) | exact hK.out _ _ rfl (by assumption) | exact hK.out _ _ (by assumption) (by assumption)
  case ht_wf =>
    intro s hs W hb hJ
    have e0 : s 0 = _ := hs 0 (by decide)
    have e1 : s 1 = _ := hs 1 (by decide)
    have e2 : s 2 = _ := hs 2 (by decide)
    have e3 : s 3 = _ := hs 3 (by decide)
    have e4 : s 4 = _ := hs 4 (by decide)
    have e5 : s 5 = _ := hs 5 (by decide)
    have e6 : s 6 = _ := hs 6 (by decide)
    have e7 : s 7 = _ := hs 7 (by decide)
    have e8 : s 8 = _ := hs 8 (by decide)
    simp only [e0, e1, e2, e3, e4, e5, e6, e7, e8]
    clear hs
    refine tail_end ?_
    go_wp2
    go_ret
    exact ⟨rfl, bl_trans B0 hb⟩

theorem pChk_d (V : Value) (n : Nat) (xs ys : Nat → Nat) (w : World) (h : AnyS w V n xs ys) : Calls Tryz.prog 140 #[.agg #[V]] w fun e w' => e = .returned (.int .i64 (chkE xs ys n)) ∧ Bel w w' := by
  obtain ⟨a, c, rfl, _⟩ := id h
  have h1 := h.bel (bl_alloc (bl_refl w) #[.slice a n c] 106)
  go_enter Tryz.func140, Tryz.ntmps140
  go_wp2_with (first | (go_at_call 45; refine (chk_all _ _ _ _ _ h1).mono ?_; rintro e w' ⟨rfl, hb⟩))
  go_ret
  refine ⟨rfl, ?_⟩
  repeat (first | exact bl_refl _ | assumption | apply bl_drewN | apply bl_drew | apply bl_alloc | refine bl_set ?_ (by simp <;> omega) | refine bl_trans ?_ (by assumption))
theorem pHas_d (V : Value) (n : Nat) (xs ys : Nat → Nat) (p q : Nat) (w : World) (h : AnyS w V n xs ys) (op : okK .f64 p) (oq : okK .f64 q) : Calls Tryz.prog 141 #[.agg #[V], .agg #[.float .f64 p, .float .f64 q]] w fun e w' => e = .returned (.bool (hasV xs ys n p q)) ∧ Bel w w' := by
  obtain ⟨a, c, rfl, _⟩ := id h
  have h1 := h.bel (bl_alloc (bl_alloc (bl_refl w) #[.slice a n c] 106) #[.float .f64 p, .float .f64 q] 24)
  go_enter Tryz.func141, Tryz.ntmps141
  go_wp2_with (first | (go_at_call 46; refine (has_all _ _ _ _ _ h1 p q op oq).mono ?_; rintro e w' ⟨rfl, hb⟩))
  go_ret
  refine ⟨rfl, ?_⟩
  repeat (first | exact bl_refl _ | assumption | apply bl_drewN | apply bl_drew | apply bl_alloc | refine bl_set ?_ (by simp <;> omega) | refine bl_trans ?_ (by assumption))


end Go.Proofs.YtdeooadeohojcaaGreat
