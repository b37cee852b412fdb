/-
  What each function of package poly answers, and what the reference of its chapter answers: one contract a function, for every float: the answer stands in the relation of its formula to what was given; of the memory that was there nothing has turned.
-/
import Derived.Test.YtoofbfjlgablkaaVec
import Derived.Test.YtoofbfjlgablkaaRx
import Derived.Test.YtoofbfjlgablkaaShp
import Derived.Below
import Derived.WalkKit
import Derived.WalkLawsBesides
import Derived.WalkSpells
import Derived.ProofKit
import Derived.OpenShut
import Derived.Deep.RegionHeld3
namespace Go.Proofs.Ytoofbfjlgablkaa
open Go.ChangeShapes Go.WideShapes Go.ChangeAt Go.RowKit
set_option linter.unusedVariables false
set_option linter.unusedSimpArgs false


set_option maxHeartbeats 1000000 in
theorem round_d (b off n cap : Nat) (xs ys : Nat → Nat) (r : Nat) (w : World) (hs : Sl w b off n xs ys) (hp : 0 < n) (hn : n ≤ maxLen) (hcap : n ≤ cap) : Calls Try.prog 89 #[.float .f64 r, .slice (some ⟨b, off, none⟩) n cap] w fun e w' => e = .returned (.int .i64 (rdE xs ys n r)) ∧ Bel w w' := by
  unfold maxLen at hn
  have hb0 := hs.lt hp
  have c1 := cmp_ge .f64
  have c2 := cmp_le .f64
  go_enter Try.func89, Try.ntmps89
  go_wp2
  go_loopw [9] (fun i wr => ∃ k : Nat, k ≤ n ∧ i = .int .i64 k ∧ Bel w wr ∧ ∀ q, q < k → (withinK .f64 (xs q) 4787326403894837248 && withinK .f64 (ys q) 4787326403894837248) = true) (fun i _ => n - (intOf i).toNat)
  case atStart => exact ⟨0, by omega, rfl, bl_refl _, fun q hq => by omega⟩
  case round =>
    obtain ⟨k, hk, rfl, hB, hq⟩ := hrel
    by_cases hlt : k < n
    · obtain ⟨x0, x1⟩ := hs k hlt
      have x0 := keep hB x0
      have x1 := keep hB x1
      have hbb : b < wr.heap.size := Nat.lt_of_lt_of_le hb0 hB.size
      have k1 : (k : Int) < (n : Int) := by omega
      cases hw : (withinK .f64 (xs k) 4787326403894837248 && withinK .f64 (ys k) 4787326403894837248)
      all_goals go_wp2_with (first | (go_at_call 12; refine (vWithin_any _ _ _ _).mono ?_; rintro e w' ⟨rfl, hb⟩; rw [hw]; have B := hb))
      · go_ret
        exact ⟨by rw [rdE_bad1 (allB_no hlt hw)]; rfl, bl_trans (bl_alloc hB _ _) B⟩
      · refine ⟨⟨k + 1, by omega, by go_num, bl_trans (bl_alloc hB _ _) B, fun q h => ?_⟩, by simp [intOf]; omega⟩
        rcases Nat.lt_or_ge q k with g | g
        · exact hq q g
        · rw [show q = k by omega]; exact hw
    · have hkn : k = n := by omega
      subst hkn
      have hre : reaB xs ys k = true := allB_iff.2 hq
      cases h1 : leK .f64 4472074429978902528 r
      · have e : rdE xs ys k r = 5 := rdE_bad2 (by unfold rdB; rw [h1]; rfl)
        go_wp2
        go_ret
        exact ⟨by rw [e]; rfl, hB⟩
      · cases h2 : leK .f64 r 4787326403894837248
        · have e : rdE xs ys k r = 5 := rdE_bad2 (by unfold rdB; rw [h2, Bool.and_false])
          go_wp2
          go_ret
          exact ⟨by rw [e]; rfl, hB⟩
        · have e : rdE xs ys k r = 0 := rdE_good hre (by unfold rdB; rw [h1, h2]; rfl)
          go_wp2
          go_ret
          exact ⟨by rw [e]; rfl, hB⟩
theorem laid1 (W : World) (xs ys : Nat → Nat) : Sl (W.alloc (.cells #[.float .f64 (xs 0), .float .f64 (ys 0)] 26)) W.heap.size 0 1 xs ys := by
  intro i hi
  rcases (show i = 0 by omega) with rfl
  all_goals constructor <;> (rw [World.cell?_alloc_new]; rfl)
theorem laid2 (W : World) (xs ys : Nat → Nat) : Sl (W.alloc (.cells #[.float .f64 (xs 0), .float .f64 (ys 0), .float .f64 (xs 1), .float .f64 (ys 1)] 26)) W.heap.size 0 2 xs ys := by
  intro i hi
  rcases (show i = 0 ∨ i = 1 by omega) with rfl | rfl
  all_goals constructor <;> (rw [World.cell?_alloc_new]; rfl)
theorem cChk_d (xs ys : Nat → Nat) (r : Nat) (w : World) : Calls Try.prog 86 #[.agg #[.float .f64 (xs 0), .float .f64 (ys 0), .float .f64 r]] w fun e w' => e = .returned (.int .i64 (rdE xs ys 1 r)) ∧ Bel w w' := by
  have ls := laid1 (w.alloc (.cells #[.float .f64 (xs 0), .float .f64 (ys 0), .float .f64 r] 84)) xs ys
  rw [World.size_alloc] at ls
  go_enter Try.func86, Try.ntmps86
  go_wp2_with (first | (go_at_call 89; refine (round_d _ 0 1 1 xs ys r _ ls (by decide) (by unfold maxLen; decide) (by decide)).mono ?_; rintro e w' ⟨rfl, hb⟩))
  go_ret
  refine ⟨rfl, ?_⟩
  repeat (first | exact bl_refl _ | assumption | apply bl_drewN | apply bl_drew | apply bl_alloc | refine bl_set ?_ (by simp <;> omega) | refine bl_trans ?_ (by assumption))
theorem way_d5 (xs ys : Nat → Nat) (r : Nat) (w : World) (h1 : Bd 40 (xs 0)) (h2 : Bd 40 (ys 0)) (h3 : Bd 40 (xs 1)) (h4 : Bd 40 (ys 1)) : Calls Try.prog 93 #[.agg #[.float .f64 (xs 0), .float .f64 (ys 0), .float .f64 (xs 1), .float .f64 (ys 1), .float .f64 r]] w fun e w' => e = .returned (.agg #[.float .f64 (Dv .sub (xs 1) (xs 0)), .float .f64 (Dv .sub (ys 1) (ys 0))]) ∧ Bel w w' := by
  go_enter Try.func93, Try.ntmps93
  go_wp2_with (first | (go_at_call 44; refine (vSub_d _ (by with_reducible assumption) (by with_reducible assumption) (by with_reducible assumption) (by with_reducible assumption)).mono ?_; rintro e w' ⟨rfl, hb⟩; have B := hb; obtain ⟨hc, hf⟩ := bcell B; have hz := B.size; (try simp at hz)))
  refine bodyPost_ret (v := .agg #[.float .f64 _, .float .f64 _]) (by simp [hc, results, Try.results93, go_sem] <;> (first | exact ⟨rfl, rfl⟩ | rfl)) rfl ⟨rfl, ?_⟩
  repeat (first | exact bl_refl _ | assumption | apply bl_drewN | apply bl_drew | apply bl_alloc | refine bl_set ?_ (by simp <;> omega) | refine bl_trans ?_ (by assumption))
theorem aChk_d (xs ys : Nat → Nat) (r : Nat) (w : World) (o : Oks xs ys 2) : Calls Try.prog 90 #[.agg #[.float .f64 (xs 0), .float .f64 (ys 0), .float .f64 (xs 1), .float .f64 (ys 1), .float .f64 r]] w fun e w' => e = .returned (.int .i64 (ckE xs ys r)) ∧ Bel w w' := by
  have ls := laid2 (w.alloc (.cells #[.float .f64 (xs 0), .float .f64 (ys 0), .float .f64 (xs 1), .float .f64 (ys 1), .float .f64 r] 86)) xs ys
  rw [World.size_alloc] at ls
  have c1 := cmp_lt .f64
  rcases rdE_vals xs ys 2 r with hr | hr
  · obtain ⟨hre, _⟩ := rdE_ok hr
    have g := gd_of o hre
    obtain ⟨g1, g2⟩ := g 0 (by decide)
    obtain ⟨g3, g4⟩ := g 1 (by decide)
    obtain ⟨w1, w2⟩ := cw_bd g
    unfold cwK at w1 w2
    cases hc : cpB (xs 0) (ys 0) (xs 1) (ys 1)
    all_goals
      have he := hc
      unfold cpB at hc
      go_enter Try.func90, Try.ntmps90
      go_wp2_with (first | (go_at_call 89; refine (round_d _ 0 2 2 xs ys r _ ls (by decide) (by unfold maxLen; decide) (by decide)).mono ?_; rintro e w' ⟨rfl, hb⟩; rw [hr]; have B := hb; obtain ⟨hc, hf⟩ := bcell B; have hz := B.size; (try simp at hz)) | (go_at_call 93; refine (way_d5 _ _ _ _ (by with_reducible assumption) (by with_reducible assumption) (by with_reducible assumption) (by with_reducible assumption)).mono ?_; rintro e w' ⟨rfl, hb⟩; clear hc hf hz; have B := bl_trans B hb; obtain ⟨hc, hf⟩ := bcell B; have hz := B.size; (try simp at hz)) | (go_at_call 51; refine (vLength_d _ (by with_reducible assumption) (by with_reducible assumption) (by decide)).mono ?_; rintro e w' ⟨rfl, hb⟩; clear hc hf hz; have B := bl_trans B hb; obtain ⟨hc, hf⟩ := bcell B; have hz := B.size; (try simp at hz)))
      go_ret
      refine ⟨by unfold ckE; rw [if_pos hr, he]; rfl, ?_⟩
      repeat (first | exact bl_refl _ | assumption | apply bl_drewN | apply bl_drew | apply bl_alloc | refine bl_set ?_ (by simp <;> omega) | refine bl_trans ?_ (by assumption))
  · go_enter Try.func90, Try.ntmps90
    go_wp2_with (first | (go_at_call 89; refine (round_d _ 0 2 2 xs ys r _ ls (by decide) (by unfold maxLen; decide) (by decide)).mono ?_; rintro e w' ⟨rfl, hb⟩; rw [hr]))
    go_ret
    refine ⟨by unfold ckE; rw [hr]; rfl, ?_⟩
    repeat (first | exact bl_refl _ | assumption | apply bl_drewN | apply bl_drew | apply bl_alloc | refine bl_set ?_ (by simp <;> omega) | refine bl_trans ?_ (by assumption))

theorem new2 (W : World) (t : TypeId) (x y : Value) : (W.alloc (.cells #[x, y] t)).cell? ⟨W.heap.size, 0, none⟩ = some x ∧ (W.alloc (.cells #[x, y] t)).cell? ⟨W.heap.size, 1, none⟩ = some y ∧ Bel W (W.alloc (.cells #[x, y] t)) :=
  ⟨by rw [World.cell?_alloc_new]; rfl, by rw [World.cell?_alloc_new]; rfl, bl_alloc (bl_refl W) _ _⟩

theorem nx_bd {xs ys : Nat → Nat} {p q : Nat} (g : Gd xs ys 2) (h4 : Bd 40 p) (h5 : Bd 40 q) (hc : cpB (xs 0) (ys 0) (xs 1) (ys 1) = false) : Bd 200 (nxX xs ys p q) ∧ Bd 200 (nxY xs ys p q) := by
  obtain ⟨g1, g2⟩ := g 0 (by decide)
  obtain ⟨w1, w2⟩ := cw_bd g
  obtain ⟨t1, _, _⟩ := ct_bd g h4 h5 hc
  exact ⟨wbd (bd_add (n := 196) (wbd g1 196 (by decide)) (bd_mul t1 w1 (by decide)) (by decide)) 200 (by decide), wbd (bd_add (n := 196) (wbd g2 196 (by decide)) (bd_mul t1 w2 (by decide)) (by decide)) 200 (by decide)⟩
theorem pChk_d (V : Value) (n : Nat) (xs ys : Nat → Nat) (w : World) (h : AnyS w V n xs ys) : Calls Try.prog 94 #[.agg #[V]] w fun e w' => e = .returned (.int .i64 (chkE xs ys n)) ∧ Bel w w' := by
  obtain ⟨a, c, rfl, _⟩ := id h
  have h1 := h.bel (bl_alloc (bl_refl w) #[.slice a n c] 88)
  go_enter Try.func94, Try.ntmps94
  go_wp2_with (first | (go_at_call 63; refine (chk_all _ _ _ _ _ h1).mono ?_; rintro e w' ⟨rfl, hb⟩))
  go_ret
  refine ⟨rfl, ?_⟩
  repeat (first | exact bl_refl _ | assumption | apply bl_drewN | apply bl_drew | apply bl_alloc | refine bl_set ?_ (by simp <;> omega) | refine bl_trans ?_ (by assumption))

end Go.Proofs.Ytoofbfjlgablkaa
