/-
  What each function of package poly answers, and what the reference of its chapter answers: one contract a function, for every float: the answer stands in the relation of its formula to what was given; of the memory that was there nothing has turned.
-/
import Derived.Test.YtoofbfjlgablkaaVec
import Derived.Test.YtoofbfjlgablkaaVd
import Derived.Below
import Derived.WalkKit
import Derived.WalkLawsBesides
import Derived.WalkSpells
import Derived.ProofKit
import Derived.OpenShut
import Derived.Deep.RegionHeld3
namespace Go.Proofs.Ytoofbfjlgablkaa
open Go.ChangeShapes Go.WideShapes Go.ChangeAt Go.RowKit
set_option linter.unusedVariables false
set_option linter.unusedSimpArgs false


theorem up_set {W : World} {p a : Addr} {v x : Value} (hne : p.block ≠ a.block) (h : W.cell? a = some v) : (W.setCell p x).cell? a = some v := (World.cell?_setCell_far W p a x hne).trans h
theorem up_set2 {W : World} {b c o o' : Nat} {v x : Value} (hne : b ≠ c) (h : W.cell? ⟨c, o', none⟩ = some v) : (W.setCell ⟨b, o, none⟩ x).cell? ⟨c, o', none⟩ = some v := up_set hne h
theorem up_alloc {W : World} {a : Addr} {v : Value} {o : Obj} (h : W.cell? a = some v) : (W.alloc o).cell? a = some v := (World.cell?_alloc_some W a o (by rw [h]; rfl)).trans h
theorem up_drew {W : World} {a : Addr} {v : Value} (h : W.cell? a = some v) : W.drew.cell? a = some v := h
theorem up_drewN {W : World} {a : Addr} {v : Value} {n : Nat} (h : W.cell? a = some v) : (W.drewN n).cell? a = some v := h
theorem far_off {W : World} {n o o' : Nat} {v : Value} (h : o ≠ o') : (W.setCell ⟨n, o, none⟩ v).cell? ⟨n, o', none⟩ = W.cell? ⟨n, o', none⟩ := by
  apply World.cell?_setCell_other
  intro e
  injection e with e1 e2 e3
  exact h e2
theorem set3 {W : World} {n : Nat} {p q r p0 q0 r0 : Value} (h0 : W.cell? ⟨n, 0, none⟩ = some p0) (h1 : W.cell? ⟨n, 1, none⟩ = some q0) (h2 : W.cell? ⟨n, 2, none⟩ = some r0) : (((W.setCell ⟨n, 0, none⟩ p).setCell ⟨n, 1, none⟩ q).setCell ⟨n, 2, none⟩ r).cell? ⟨n, 0, none⟩ = some p ∧ (((W.setCell ⟨n, 0, none⟩ p).setCell ⟨n, 1, none⟩ q).setCell ⟨n, 2, none⟩ r).cell? ⟨n, 1, none⟩ = some q ∧ (((W.setCell ⟨n, 0, none⟩ p).setCell ⟨n, 1, none⟩ q).setCell ⟨n, 2, none⟩ r).cell? ⟨n, 2, none⟩ = some r := by
  have f10 : ∀ {Z : World} {v : Value}, (Z.setCell ⟨n, 1, none⟩ v).cell? ⟨n, 0, none⟩ = Z.cell? ⟨n, 0, none⟩ := far_off (by decide)
  have f20 : ∀ {Z : World} {v : Value}, (Z.setCell ⟨n, 2, none⟩ v).cell? ⟨n, 0, none⟩ = Z.cell? ⟨n, 0, none⟩ := far_off (by decide)
  have f21 : ∀ {Z : World} {v : Value}, (Z.setCell ⟨n, 2, none⟩ v).cell? ⟨n, 1, none⟩ = Z.cell? ⟨n, 1, none⟩ := far_off (by decide)
  have f01 : ∀ {Z : World} {v : Value}, (Z.setCell ⟨n, 0, none⟩ v).cell? ⟨n, 1, none⟩ = Z.cell? ⟨n, 1, none⟩ := far_off (by decide)
  have f02 : ∀ {Z : World} {v : Value}, (Z.setCell ⟨n, 0, none⟩ v).cell? ⟨n, 2, none⟩ = Z.cell? ⟨n, 2, none⟩ := far_off (by decide)
  have f12 : ∀ {Z : World} {v : Value}, (Z.setCell ⟨n, 1, none⟩ v).cell? ⟨n, 2, none⟩ = Z.cell? ⟨n, 2, none⟩ := far_off (by decide)
  refine ⟨?_, ?_, ?_⟩
  · rw [f20, f10]; apply World.cell?_setCell_same; exact h0
  · rw [f21]; apply World.cell?_setCell_same; exact f01.trans h1
  · apply World.cell?_setCell_same; exact f12.trans (f02.trans h2)
theorem cell_own {W : World} {n : Nat} (h : n = W.heap.size) (a b : Value) (t : TypeId) : (W.alloc (Obj.cells #[a, b] t)).cell? ⟨n, 0, none⟩ = some a ∧ (W.alloc (Obj.cells #[a, b] t)).cell? ⟨n, 1, none⟩ = some b := by
  subst h
  exact ⟨by go_keep, by go_keep⟩
theorem cell_own3 {W : World} {n : Nat} (h : n = W.heap.size) (a b c : Value) (t : TypeId) : (W.alloc (Obj.cells #[a, b, c] t)).cell? ⟨n, 0, none⟩ = some a ∧ (W.alloc (Obj.cells #[a, b, c] t)).cell? ⟨n, 1, none⟩ = some b ∧ (W.alloc (Obj.cells #[a, b, c] t)).cell? ⟨n, 2, none⟩ = some c := by
  subst h
  exact ⟨by go_keep, by go_keep, by go_keep⟩

theorem fresh_frozen {W : World} {b i : Nat} (h : W.heap.size ≤ b) : W.frozen? ⟨b, i, none⟩ = false := by
  simp [World.frozen?, h]
theorem fz_alloc {W : World} {c : Array Value} {t : TypeId} {a : Addr} (h : W.frozen? a = false) : (W.alloc (.cells c t)).frozen? a = false := ((bl_alloc (bl_refl W) c t).2 a).trans h
theorem set2 {W : World} {n : Nat} {p q p0 q0 : Value} (h0 : W.cell? ⟨n, 0, none⟩ = some p0) (h1 : W.cell? ⟨n, 1, none⟩ = some q0) : ((W.setCell ⟨n, 0, none⟩ p).setCell ⟨n, 1, none⟩ q).cell? ⟨n, 0, none⟩ = some p ∧ ((W.setCell ⟨n, 0, none⟩ p).setCell ⟨n, 1, none⟩ q).cell? ⟨n, 1, none⟩ = some q := by
  constructor
  · rw [far_off (by decide)]; apply World.cell?_setCell_same; exact h0
  · apply World.cell?_setCell_same; exact (far_off (by decide)).trans h1
/-- points that lie in a row -/
def Sl (w : World) (b off n : Nat) (xs ys : Nat → Nat) : Prop := ∀ i, i < n → w.cell? ⟨b, off + i * 2, none⟩ = some (.float .f64 (xs i)) ∧ w.cell? ⟨b, off + i * 2 + 1, none⟩ = some (.float .f64 (ys i))
theorem Sl.bel {w w' : World} {b off n : Nat} {xs ys : Nat → Nat} (h : Sl w b off n xs ys) (g : Bel w w') : Sl w' b off n xs ys := fun i hi => ⟨keep g (h i hi).1, keep g (h i hi).2⟩
theorem Sl.lt {w : World} {b off n : Nat} {xs ys : Nat → Nat} (h : Sl w b off n xs ys) (hn : 0 < n) : b < w.heap.size := World.block_lt_of_cell? w _ (h 0 hn).1
theorem tmod_nat (a n : Nat) : ((a : Int) + 1).tmod (n : Int) = (((a + 1) % n : Nat) : Int) := by
  rw [show ((a : Int) + 1) = ((a + 1 : Nat) : Int) by omega]; exact (Int.ofNat_tmod _ _).symm
theorem next_of (xs ys : Nat → Nat) {n i : Nat} (hi : i < n) : ∃ j, j < n ∧ ((i : Int) + 1).tmod (n : Int) = (j : Int) ∧ wX xs n i = Dv .sub (xs j) (xs i) ∧ wX ys n i = Dv .sub (ys j) (ys i) := ⟨(i + 1) % n, Nat.mod_lt _ (by omega), tmod_nat i n, rfl, rfl⟩
theorem tmod_nat2 (a k n : Nat) : ((a : Int) + (k : Int)).tmod (n : Int) = (((a + k) % n : Nat) : Int) := by
  rw [show ((a : Int) + (k : Int)) = ((a + k : Nat) : Int) by omega]; exact (Int.ofNat_tmod _ _).symm

theorem edgeOf_d (b off n cap : Nat) (xs ys : Nat → Nat) (w : World) (hs : Sl w b off n xs ys) (g : Gd xs ys n) (i : Nat) (hi : i < n) (hn : n ≤ maxLen) (hcap : n ≤ cap) : Calls Try.prog 68 #[.slice (some ⟨b, off, none⟩) n cap, .int .i64 i] w fun e w' => e = .returned (.agg #[.float .f64 (xs i), .float .f64 (ys i), .float .f64 (wX xs n i), .float .f64 (wX ys n i)]) ∧ Bel w w' := by
  unfold maxLen at hn
  obtain ⟨a0, a1⟩ := hs i hi
  obtain ⟨j, hj, et, ex, ey⟩ := next_of xs ys hi
  obtain ⟨c0, c1⟩ := hs j hj
  have hb0 := hs.lt (by omega)
  have hne : ¬ n = 0 := by omega
  have hnI : ¬ (n : Int) = 0 := by omega
  have wi : IntKind.wrap .i64 ((i : Int) + 1) = (i : Int) + 1 := by rw [IntKind.wrap_i64]; omega
  have j0 : (0 : Int) ≤ (j : Int) := by omega
  have j1 : (j : Int) < (n : Int) := by omega
  obtain ⟨g1, g2⟩ := g i hi
  obtain ⟨g3, g4⟩ := g j hj
  go_enter Try.func68, Try.ntmps68
  go_wp2
  go_region_held3 (fun w1 => w1.cell? ⟨b, off + i * 2, none⟩ = some (.float .f64 (xs i)) ∧ w1.cell? ⟨b, off + i * 2 + 1, none⟩ = some (.float .f64 (ys i)) ∧ w1.cell? ⟨b, off + j * 2, none⟩ = some (.float .f64 (xs j)) ∧ w1.cell? ⟨b, off + j * 2 + 1, none⟩ = some (.float .f64 (ys j))) (first | ((try go_split_ands); refine ⟨?_, ?_, ?_, ?_⟩ <;> (first | ((repeat' (first | (with_reducible assumption) | (with_reducible refine up_drew ?_) | (with_reducible refine up_drewN ?_) | (with_reducible refine keep hb ?_) | (with_reducible refine up_set2 ?_ ?_) | (with_reducible refine (cell_own ?_ _ _ _).1) | (with_reducible refine (cell_own ?_ _ _ _).2) | (with_reducible refine up_alloc ?_) | omega | (simp; done))); done) | go_keep)))
    (first | (go_at_call 44; refine (vSub_d _ (by assumption) (by assumption) (by assumption) (by assumption)).mono ?_; rintro e w' ⟨rfl, hb⟩; have B := hb; obtain ⟨hc, hf⟩ := bcell B; have hz := B.size; (try simp at hz)))
  all_goals go_wp2
  refine bodyPost_ret (v := .agg #[.float .f64 _, .float .f64 _, .float .f64 _, .float .f64 _]) (by simp [hc, results, Try.results68, go_sem] <;> (first | exact ⟨rfl, rfl, rfl, rfl⟩ | exact ⟨rfl, rfl⟩ | rfl)) rfl ⟨by rw [ex, ey], ?_⟩
  repeat (first | exact bl_refl _ | assumption | apply bl_drewN | apply bl_drew | apply bl_alloc | refine bl_set ?_ (by simp <;> omega) | refine bl_trans ?_ (by assumption))
theorem leans_d (fx fy wx wy p q : Nat) (w : World) (h1 : Bd 40 fx) (h2 : Bd 40 fy) (h3 : Bd 42 wx) (h4 : Bd 42 wy) (h5 : Bd 40 p) (h6 : Bd 40 q) : Calls Try.prog 69 #[.agg #[.float .f64 fx, .float .f64 fy, .float .f64 wx, .float .f64 wy], .agg #[.float .f64 p, .float .f64 q]] w fun e w' => e = .returned (.float .f64 (crK wx wy (Dv .sub p fx) (Dv .sub q fy))) ∧ Bel w w' := by
  have b1 : Bd 42 (Dv .sub p fx) := bd_sub h5 h1 (by decide)
  have b2 : Bd 42 (Dv .sub q fy) := bd_sub h6 h2 (by decide)
  go_enter Try.func69, Try.ntmps69
  go_wp2
  go_region_held3 (fun w1 => w1.cell? ⟨w.heap.size, 0, none⟩ = some (.float .f64 fx) ∧ w1.cell? ⟨w.heap.size, 1, none⟩ = some (.float .f64 fy) ∧ w1.cell? ⟨w.heap.size, 2, none⟩ = some (.float .f64 wx) ∧ w1.cell? ⟨w.heap.size, 3, none⟩ = some (.float .f64 wy) ∧ w1.cell? ⟨w.heap.size + 1, 0, none⟩ = some (.float .f64 p) ∧ w1.cell? ⟨w.heap.size + 1, 1, none⟩ = some (.float .f64 q)) (first | ((try go_split_ands); refine ⟨?_, ?_, ?_, ?_, ?_, ?_⟩ <;> (first | ((repeat' (first | (with_reducible assumption) | (with_reducible refine up_drew ?_) | (with_reducible refine up_drewN ?_) | (with_reducible refine keep hb ?_) | (with_reducible refine up_set2 ?_ ?_) | (with_reducible refine (cell_own ?_ _ _ _).1) | (with_reducible refine (cell_own ?_ _ _ _).2) | (with_reducible refine up_alloc ?_) | omega | (simp; done))); done) | go_keep)))
    (first | (go_at_call 44; refine (vSub_d _ (by with_reducible assumption) (by with_reducible assumption) (by with_reducible assumption) (by with_reducible assumption)).mono ?_; rintro e w' ⟨rfl, hb⟩; have B := hb; obtain ⟨hc, hf⟩ := bcell B; have hz := B.size; (try simp at hz)) | (go_at_call 61; refine (vCross_d _ (by with_reducible assumption) (by with_reducible assumption) (by with_reducible assumption) (by with_reducible assumption) (by decide)).mono ?_; rintro e w' ⟨rfl, hb⟩; clear hc hf hz; have B := bl_trans B hb; obtain ⟨hc, hf⟩ := bcell B; have hz := B.size; (try simp at hz)))
  all_goals go_wp2
  go_ret
  refine ⟨rfl, ?_⟩
  repeat (first | exact bl_refl _ | assumption | apply bl_drewN | apply bl_drew | apply bl_alloc | refine bl_set ?_ (by simp <;> omega) | refine bl_trans ?_ (by assumption))
theorem plc_none (v : Option Addr) (cap : Nat) (xs ys : Nat → Nat) (w : World) : Calls Try.prog 65 #[.slice v 0 cap] w fun e w' => e = .returned (.int .i64 0) ∧ Bel w w' := by
  go_enter Try.func65, Try.ntmps65
  go_wp2
  refine wp_loop_rounds 1 ?_
  rw [rounds_succ]
  go_wp2
  go_ret
  refine ⟨rfl, ?_⟩
  repeat (first | exact bl_refl _ | assumption | apply bl_drewN | apply bl_drew | apply bl_alloc | refine bl_set ?_ (by simp <;> omega) | refine bl_trans ?_ (by assumption))
theorem plc_many {xs ys : Nat → Nat} {n : Nat} (h : 64 < n) : plcE xs ys n = 4 := by unfold plcE; rw [if_pos h]
theorem plc_bad {xs ys : Nat → Nat} {n k : Nat} (h : ¬ 64 < n) (hk : k < n) (g : (withinK .f64 (xs k) 4787326403894837248 && withinK .f64 (ys k) 4787326403894837248) = false) : plcE xs ys n = 5 := by
  unfold plcE reaB; rw [if_neg h, allB_no hk g]; rfl
theorem plc_good {xs ys : Nat → Nat} {n : Nat} (h : ¬ 64 < n) (g : ∀ k, k < n → (withinK .f64 (xs k) 4787326403894837248 && withinK .f64 (ys k) 4787326403894837248) = true) : plcE xs ys n = 0 := by
  unfold plcE reaB; rw [if_neg h, allB_iff.2 g]; rfl
set_option maxHeartbeats 1000000 in
theorem plc_some (b off n cap : Nat) (xs ys : Nat → Nat) (w : World) (hs : Sl w b off n xs ys) (hp : 0 < n) (hn : n ≤ maxLen) (hcap : n ≤ cap) : Calls Try.prog 65 #[.slice (some ⟨b, off, none⟩) n cap] w fun e w' => e = .returned (.int .i64 (plcE xs ys n)) ∧ Bel w w' := by
  unfold maxLen at hn
  have hb0 := hs.lt hp
  by_cases hm : 64 < n
  · have hmI : (64 : Int) < (n : Int) := by omega
    go_enter Try.func65, Try.ntmps65
    go_wp2
    go_ret
    exact ⟨by rw [plc_many hm]; rfl, bl_refl _⟩
  · have hmI : ¬ (64 : Int) < (n : Int) := by omega
    go_enter Try.func65, Try.ntmps65
    go_wp2
    go_loopw [10] (fun i wr => ∃ k : Nat, k ≤ n ∧ i = .int .i64 k ∧ Bel w wr ∧ ∀ q, q < k → (withinK .f64 (xs q) 4787326403894837248 && withinK .f64 (ys q) 4787326403894837248) = true) (fun i _ => n - (intOf i).toNat)
    case atStart => exact ⟨0, by omega, rfl, bl_refl _, fun q hq => by omega⟩
    case round =>
      obtain ⟨k, hk, rfl, hB, hq⟩ := hrel
      by_cases hlt : k < n
      · obtain ⟨x0, x1⟩ := hs k hlt
        have x0 := keep hB x0
        have x1 := keep hB x1
        have hbb : b < wr.heap.size := Nat.lt_of_lt_of_le hb0 hB.size
        have k1 : (k : Int) < (n : Int) := by omega
        cases hw : (withinK .f64 (xs k) 4787326403894837248 && withinK .f64 (ys k) 4787326403894837248)
        all_goals go_wp2_with (first | (go_at_call 12; refine (vWithin_any _ _ _ _).mono ?_; rintro e w' ⟨rfl, hb⟩; rw [hw]; have B := hb))
        · go_ret
          exact ⟨by rw [plc_bad hm hlt hw]; rfl, bl_trans (bl_alloc hB _ _) B⟩
        · refine ⟨⟨k + 1, by omega, by go_num, bl_trans (bl_alloc hB _ _) B, fun q h => ?_⟩, by simp [intOf]; omega⟩
          rcases Nat.lt_or_ge q k with g | g
          · exact hq q g
          · rw [show q = k by omega]; exact hw
      · have hkn : k = n := by omega
        subst hkn
        go_wp2
        go_ret
        exact ⟨by rw [plc_good hm hq]; rfl, hB⟩
theorem at_of (xs ys : Nat → Nat) {n : Nat} (i k : Nat) (hn : 0 < n) : ∃ j, j < n ∧ ((i : Int) + (k : Int)).tmod (n : Int) = (j : Int) ∧ xs ((i + k) % n) = xs j ∧ ys ((i + k) % n) = ys j := ⟨(i + k) % n, Nat.mod_lt _ hn, tmod_nat2 i k n, rfl, rfl⟩
theorem out_short {xs ys : Nat → Nat} {n i : Nat} (h : ltK .f64 (lnK (wX xs n i) (wX ys n i)) 4472074429978902528 = true) : outB xs ys n i = false := by unfold outB; rw [h]; rfl
theorem out_no {xs ys : Nat → Nat} {n i k : Nat} (h2 : 2 ≤ k) (hk : k < n) (h : ltK .f64 0 (lnS xs ys n i (xs ((i + k) % n)) (ys ((i + k) % n))) = false) : outB xs ys n i = false := by
  unfold outB
  rw [allB_no hk (by rw [h]; simp; omega)]
  simp
theorem out_yes {xs ys : Nat → Nat} {n i : Nat} (h : ltK .f64 (lnK (wX xs n i) (wX ys n i)) 4472074429978902528 = false) (g : ∀ k, 2 ≤ k → k < n → ltK .f64 0 (lnS xs ys n i (xs ((i + k) % n)) (ys ((i + k) % n))) = true) : outB xs ys n i = true := by
  unfold outB
  rw [h, allB_iff.2 (fun k hk => by
    by_cases h2 : 2 ≤ k
    · rw [g k h2 hk]; simp
    · simp; omega)]
  rfl
set_option maxHeartbeats 2000000 in
theorem outermost_d (b off n cap : Nat) (xs ys : Nat → Nat) (w : World) (hs : Sl w b off n xs ys) (g : Gd xs ys n) (i : Nat) (hi : i < n) (hn : n ≤ 64) (h3 : 3 ≤ n) (hcap : n ≤ cap) : Calls Try.prog 66 #[.slice (some ⟨b, off, none⟩) n cap, .int .i64 i] w fun e w' => e = .returned (.bool (outB xs ys n i)) ∧ Bel w w' := by
  have hmax : n ≤ maxLen := by unfold maxLen; omega
  have c1 := cmp_lt .f64
  have c2 := cmp_gt .f64
  obtain ⟨g1, g2⟩ := g i hi
  obtain ⟨g3, g4⟩ := wX_bd g hi
  have hb0 := hs.lt (by omega)
  cases hl : ltK .f64 (lnK (wX xs n i) (wX ys n i)) 4472074429978902528
  all_goals
    go_enter Try.func66, Try.ntmps66
    go_wp2_with (first | (go_at_call 68; refine (edgeOf_d _ _ _ _ _ _ _ hs g _ hi hmax hcap).mono ?_; rintro e w_1 ⟨rfl, hb⟩; have B := hb; obtain ⟨hc, hf⟩ := bcell B; have hz := B.size; (try simp at hz)) | (go_at_call 51; refine (vLength_d _ (by with_reducible assumption) (by with_reducible assumption) (by decide)).mono ?_; rintro e w_2 ⟨rfl, hb⟩; have Bl := hb))
  · have B0 : Bel w w_2 := bl_trans (bl_alloc B _ _) Bl
    go_loopw [6] (fun i' wr => ∃ k : Nat, 2 ≤ k ∧ k ≤ n ∧ i' = .int .i64 k ∧ Bel w wr ∧ wr.cell? ⟨w_1.heap.size, 0, none⟩ = some (.float .f64 (xs i)) ∧ wr.cell? ⟨w_1.heap.size, 1, none⟩ = some (.float .f64 (ys i)) ∧ wr.cell? ⟨w_1.heap.size, 2, none⟩ = some (.float .f64 (wX xs n i)) ∧ wr.cell? ⟨w_1.heap.size, 3, none⟩ = some (.float .f64 (wX ys n i)) ∧ ∀ q, 2 ≤ q → q < k → ltK .f64 0 (lnS xs ys n i (xs ((i + q) % n)) (ys ((i + q) % n))) = true) (fun i' _ => n - (intOf i').toNat)
    case atStart =>
      refine ⟨2, by omega, by omega, rfl, B0, ?_, ?_, ?_, ?_, fun q h1 h2 => by omega⟩
      all_goals (refine keep Bl ?_; go_keep; try rfl)
    case round =>
      obtain ⟨k, hk2, hk, rfl, hB, e0, e1, e2, e3, hq⟩ := hrel
      by_cases hlt : k < n
      · have k1 : (k : Int) < (n : Int) := by omega
        obtain ⟨j, hj, et, ex, ey⟩ := at_of xs ys i k (n := n) (by omega)
        obtain ⟨x0, x1⟩ := hs j hj
        have x0 := keep hB x0
        have x1 := keep hB x1
        obtain ⟨g5, g6⟩ := g j hj
        have wk : IntKind.wrap .i64 ((i : Int) + (k : Int)) = (i : Int) + (k : Int) := by rw [IntKind.wrap_i64]; omega
        have hbb : b < wr.heap.size := Nat.lt_of_lt_of_le hb0 hB.size
        have hne : ¬ n = 0 := by omega
        have j0 : (0 : Int) ≤ (j : Int) := by omega
        have j1 : (j : Int) < (n : Int) := by omega
        cases hw : ltK .f64 0 (lnS xs ys n i (xs j) (ys j))
        all_goals
          unfold lnS at hw
          go_wp2
          go_region_held3 (fun w1 => w1.cell? ⟨w_1.heap.size, 0, none⟩ = some (.float .f64 (xs i)) ∧ w1.cell? ⟨w_1.heap.size, 1, none⟩ = some (.float .f64 (ys i)) ∧ w1.cell? ⟨w_1.heap.size, 2, none⟩ = some (.float .f64 (wX xs n i)) ∧ w1.cell? ⟨w_1.heap.size, 3, none⟩ = some (.float .f64 (wX ys n i)) ∧ w1.cell? ⟨b, off + j * 2, none⟩ = some (.float .f64 (xs j)) ∧ w1.cell? ⟨b, off + j * 2 + 1, none⟩ = some (.float .f64 (ys j))) (first | ((try go_split_ands); refine ⟨?_, ?_, ?_, ?_, ?_, ?_⟩ <;> (first | ((repeat' (first | (with_reducible assumption) | (with_reducible refine up_drew ?_) | (with_reducible refine up_drewN ?_) | (with_reducible refine keep hb ?_) | (with_reducible refine up_set2 ?_ ?_) | (with_reducible refine (cell_own ?_ _ _ _).1) | (with_reducible refine (cell_own ?_ _ _ _).2) | (with_reducible refine up_alloc ?_) | omega | (simp; done))); done) | go_keep)))
            (first | (go_at_call 69; refine (leans_d _ _ _ _ _ _ _ (by with_reducible assumption) (by with_reducible assumption) (by with_reducible assumption) (by with_reducible assumption) (by with_reducible assumption) (by with_reducible assumption)).mono ?_; rintro e w_3 ⟨rfl, hb⟩; have B := hb; obtain ⟨hc, hf⟩ := bcell B; have hz := B.size; (try simp at hz)))
          all_goals go_wp2
        · go_ret
          exact ⟨by rw [out_no hk2 hlt (by rw [ex, ey]; exact hw)]; rfl, bl_trans (bl_drew hB) B⟩
        · refine ⟨⟨k + 1, by omega, by omega, by go_num, bl_trans (bl_drew hB) B, keep B (up_drew e0), keep B (up_drew e1), keep B (up_drew e2), keep B (up_drew e3), fun q h1 h2 => ?_⟩, by simp [intOf]; omega⟩
          rcases Nat.lt_or_ge q k with g | g
          · exact hq q h1 g
          · rw [show q = k by omega, ex, ey]; exact hw
      · have hkn : k = n := by omega
        subst hkn
        go_wp2
        go_ret
        exact ⟨by rw [out_yes hl hq]; rfl, hB⟩
  · go_ret
    refine ⟨by rw [out_short hl]; rfl, ?_⟩
    repeat (first | exact bl_refl _ | assumption | apply bl_drewN | apply bl_drew | apply bl_alloc | refine bl_set ?_ (by simp <;> omega) | refine bl_trans ?_ (by assumption))
theorem chk_zero (xs ys : Nat → Nat) : chkE xs ys 0 = 60 := by
  have e : plcE xs ys 0 = 0 := plc_good (by decide) (fun k hk => by omega)
  unfold chkE; rw [if_pos e]; rfl
theorem chk_none (v : Option Addr) (cap : Nat) (xs ys : Nat → Nat) (w : World) : Calls Try.prog 63 #[.slice v 0 cap] w fun e w' => e = .returned (.int .i64 60) ∧ Bel w w' := by
  go_enter Try.func63, Try.ntmps63
  go_wp2_with (first | (go_at_call 65; refine (plc_none _ _ xs ys _).mono ?_; rintro e w' ⟨rfl, hb⟩))
  go_ret
  exact ⟨rfl, by assumption⟩
theorem chk_bad {xs ys : Nat → Nat} {n : Nat} (h : ¬ plcE xs ys n = 0) : chkE xs ys n = plcE xs ys n := by unfold chkE; rw [if_neg h]
theorem chk_few {xs ys : Nat → Nat} {n : Nat} (h : plcE xs ys n = 0) (g : n < 3) : chkE xs ys n = 60 := by unfold chkE; rw [if_pos h, if_pos g]
theorem chk_no {xs ys : Nat → Nat} {n k : Nat} (h : plcE xs ys n = 0) (hk : k < n) (g : outB xs ys n k = false) : chkE xs ys n = 60 := by
  unfold chkE; rw [if_pos h, allB_no hk g]; split <;> rfl
theorem chk_yes {xs ys : Nat → Nat} {n : Nat} (h : plcE xs ys n = 0) (h3 : ¬ n < 3) (g : ∀ k, k < n → outB xs ys n k = true) : chkE xs ys n = 0 := by
  unfold chkE; rw [if_pos h, allB_iff.2 g, if_neg h3]; rfl
theorem plc_vals (xs ys : Nat → Nat) (n : Nat) : plcE xs ys n = 0 ∨ plcE xs ys n = 4 ∨ plcE xs ys n = 5 := by unfold plcE; split <;> (try split) <;> simp
set_option maxHeartbeats 1000000 in
theorem chk_some (b off n cap : Nat) (xs ys : Nat → Nat) (w : World) (hs : Sl w b off n xs ys) (o : Oks xs ys n) (hp : 0 < n) (hn : n ≤ maxLen) (hcap : n ≤ cap) : Calls Try.prog 63 #[.slice (some ⟨b, off, none⟩) n cap] w fun e w' => e = .returned (.int .i64 (chkE xs ys n)) ∧ Bel w w' := by
  by_cases hz : plcE xs ys n = 0
  · obtain ⟨g, h64⟩ := gd_plc o hz
    by_cases h3 : n < 3
    · have h3I : (n : Int) < 3 := by omega
      go_enter Try.func63, Try.ntmps63
      go_wp2_with (first | (go_at_call 65; refine (plc_some _ _ _ _ _ _ _ hs hp hn hcap).mono ?_; rintro e w' ⟨rfl, hb⟩; rw [hz]))
      go_ret
      exact ⟨by rw [chk_few hz h3]; rfl, by assumption⟩
    · have h3I : ¬ (n : Int) < 3 := by omega
      go_enter Try.func63, Try.ntmps63
      go_wp2_with (first | (go_at_call 65; refine (plc_some _ _ _ _ _ _ _ hs hp hn hcap).mono ?_; rintro e w_1 ⟨rfl, hb⟩; rw [hz]; have B := hb))
      go_loopw [15] (fun i' wr => ∃ k : Nat, k ≤ n ∧ i' = .int .i64 k ∧ Bel w wr ∧ ∀ q, q < k → outB xs ys n q = true) (fun i' _ => n - (intOf i').toNat)
      case atStart => exact ⟨0, by omega, rfl, B, fun q h => by omega⟩
      case round =>
        obtain ⟨k, hk, rfl, hB, hq⟩ := hrel
        by_cases hlt : k < n
        · have k1 : (k : Int) < (n : Int) := by omega
          cases hw : outB xs ys n k
          all_goals go_wp2_with (first | (go_at_call 66; refine (outermost_d _ _ _ _ _ _ _ (hs.bel hB) g _ hlt h64 (by omega) hcap).mono ?_; rintro e w_2 ⟨rfl, hb⟩; rw [hw]; have B2 := hb))
          · go_ret
            exact ⟨by rw [chk_no hz hlt hw]; rfl, bl_trans hB B2⟩
          · refine ⟨⟨k + 1, by omega, by go_num, bl_trans hB B2, fun q h => ?_⟩, by simp [intOf]; omega⟩
            rcases Nat.lt_or_ge q k with g | g
            · exact hq q g
            · rw [show q = k by omega]; exact hw
        · have hkn : k = n := by omega
          subst hkn
          go_wp2
          go_ret
          exact ⟨by rw [chk_yes hz h3 hq]; rfl, hB⟩
  · obtain ⟨v, hv⟩ : ∃ v, plcE xs ys n = v := ⟨_, rfl⟩
    rw [hv] at hz
    go_enter Try.func63, Try.ntmps63
    go_wp2_with (first | (go_at_call 65; refine (plc_some _ _ _ _ _ _ _ hs hp hn hcap).mono ?_; rintro e w' ⟨rfl, hb⟩; rw [hv]))
    all_goals
      go_ret
      exact ⟨by rw [chk_bad (by rw [hv]; exact hz), hv]; rfl, by assumption⟩

end Go.Proofs.Ytoofbfjlgablkaa
