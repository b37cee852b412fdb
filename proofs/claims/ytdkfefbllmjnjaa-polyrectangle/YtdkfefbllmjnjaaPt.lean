/-
  What each function of package poly answers, and what the reference of its chapter answers: one contract a function, for every float: the answer stands in the relation of its formula to what was given; of the memory that was there nothing has turned.
-/
import Derived.Test.YtdkfefbllmjnjaaVec
import Derived.Test.YtdkfefbllmjnjaaPs
import Derived.Test.YtdkfefbllmjnjaaRa
import Derived.Below
import Derived.WalkKit
import Derived.WalkLawsBesides
import Derived.WalkSpells
import Derived.ProofKit
import Derived.OpenShut
import Derived.Deep.RegionHeld3
namespace Go.Proofs.Ytdkfefbllmjnjaa
open Go.ChangeShapes Go.WideShapes Go.ChangeAt Go.RowKit
set_option linter.unusedVariables false
set_option linter.unusedSimpArgs false


def rcL (cx cy hx hy : Nat) : List Pt := [((Dv .sub cx hx), (Dv .sub cy hy)), ((Dv .add cx hx), (Dv .sub cy hy)), ((Dv .add cx hx), (Dv .add cy hy)), ((Dv .sub cx hx), (Dv .add cy hy))]
def rcB (cx cy hx hy : Nat) : Bool := (withinK .f64 cx 4787326403894837248 && withinK .f64 cy 4787326403894837248) && (withinK .f64 hx 4787326403894837248 && withinK .f64 hy 4787326403894837248) && !ltK .f64 hx 4472074429978902528 && !ltK .f64 hy 4472074429978902528
def rcE (cx cy hx hy : Nat) : Int := if rcB cx cy hx hy then chkE (px (rcL cx cy hx hy)) (py (rcL cx cy hx hy)) 4 else 5
theorem rc_laid (W : World) (cx cy hx hy : Nat) : Sl (W.alloc (.cells #[.float .f64 (Dv .sub cx hx), .float .f64 (Dv .sub cy hy), .float .f64 (Dv .add cx hx), .float .f64 (Dv .sub cy hy), .float .f64 (Dv .add cx hx), .float .f64 (Dv .add cy hy), .float .f64 (Dv .sub cx hx), .float .f64 (Dv .add cy hy)] 24)) W.heap.size 0 4 (px (rcL cx cy hx hy)) (py (rcL cx cy hx hy)) := by
  intro i hi
  rcases (show i = 0 ∨ i = 1 ∨ i = 2 ∨ i = 3 by omega) with rfl | rfl | rfl | rfl
  all_goals constructor <;> (rw [World.cell?_alloc_new]; rfl)
theorem rc_oks {cx cy hx hy : Nat} (h1 : Bd 40 cx) (h2 : Bd 40 cy) (h3 : Bd 40 hx) (h4 : Bd 40 hy) : Oks (px (rcL cx cy hx hy)) (py (rcL cx cy hx hy)) 4 := by
  have a1 := (bd_sub h1 h3 (by decide)).1
  have a2 := (bd_sub h2 h4 (by decide)).1
  have a3 := (bd_add h1 h3 (by decide)).1
  have a4 := (bd_add h2 h4 (by decide)).1
  intro i hi
  rcases (show i = 0 ∨ i = 1 ∨ i = 2 ∨ i = 3 by omega) with rfl | rfl | rfl | rfl
  · exact ⟨a1, a2⟩
  · exact ⟨a3, a2⟩
  · exact ⟨a3, a4⟩
  · exact ⟨a1, a4⟩

set_option maxHeartbeats 2000000 in
theorem rect_bad (cx cy hx hy : Nat) (w : World) (o1 : okK .f64 cx) (o2 : okK .f64 cy) (o3 : okK .f64 hx) (o4 : okK .f64 hy) (hb0 : rcB cx cy hx hy = false) : Calls Try.prog 40 #[.agg #[.float .f64 cx, .float .f64 cy], .agg #[.float .f64 hx, .float .f64 hy]] w fun e w' => e = .returned (.tuple #[.slice none 0 0, .int .i64 5]) ∧ Bel w w' := by
  have zz : ((w.alloc (.cells #[.float .f64 cx, .float .f64 cy] 24)).alloc (.cells #[.float .f64 hx, .float .f64 hy] 24)).cell? ⟨w.heap.size, 0, none⟩ = some (.float .f64 cx) ∧ ((w.alloc (.cells #[.float .f64 cx, .float .f64 cy] 24)).alloc (.cells #[.float .f64 hx, .float .f64 hy] 24)).cell? ⟨w.heap.size + 1, 0, none⟩ = some (.float .f64 hx) ∧ ((w.alloc (.cells #[.float .f64 cx, .float .f64 cy] 24)).alloc (.cells #[.float .f64 hx, .float .f64 hy] 24)).cell? ⟨w.heap.size + 1, 1, none⟩ = some (.float .f64 hy) := ⟨up_alloc (cell_own rfl _ _ _).1, (cell_own (by simp) _ _ _).1, (cell_own (by simp) _ _ _).2⟩
  have zy : ((w.alloc (.cells #[.float .f64 cx, .float .f64 cy] 24)).alloc (.cells #[.float .f64 hx, .float .f64 hy] 24)).cell? ⟨w.heap.size, 1, none⟩ = some (.float .f64 cy) := up_alloc (cell_own rfl _ _ _).2
  have B0 : Bel w ((w.alloc (.cells #[.float .f64 cx, .float .f64 cy] 24)).alloc (.cells #[.float .f64 hx, .float .f64 hy] 24)) := bl_alloc (bl_alloc (bl_refl w) _ _) _ _
  have c1 := cmp_lt .f64
  have om : okK .f64 4787326403894837248 := by rw [okK64]; decide
  unfold rcB at hb0
  cases h1 : (withinK .f64 cx 4787326403894837248 && withinK .f64 cy 4787326403894837248)
  · go_enter Try.func40, Try.ntmps40
    go_wp2_with (first | (go_at_call 11; refine (vWithin_any _ _ _ _).mono ?_; rintro e w' ⟨rfl, hb⟩; (first | (rw [h1]; have Bc := hb; have z2 := keep Bc zz.2.1; have z3 := keep Bc zz.2.2) | (rw [h2]; replace Bc := bl_trans Bc hb))))
    refine bodyPost_ret (v := .tuple #[.slice none 0 0, .int .i64 5]) (by simp [results, Try.results40, go_sem] <;> (first | exact ⟨⟨rfl, rfl⟩, rfl⟩ | exact ⟨rfl, rfl, rfl, rfl⟩ | exact ⟨rfl, rfl, rfl⟩ | exact ⟨rfl, rfl⟩ | rfl)) rfl ⟨rfl, bl_trans B0 Bc⟩
  · cases h2 : (withinK .f64 hx 4787326403894837248 && withinK .f64 hy 4787326403894837248)
    · go_enter Try.func40, Try.ntmps40
      go_wp2_with (first | (go_at_call 11; refine (vWithin_any _ _ _ _).mono ?_; rintro e w' ⟨rfl, hb⟩; (first | (rw [h1]; have Bc := hb; have z2 := keep Bc zz.2.1; have z3 := keep Bc zz.2.2) | (rw [h2]; replace Bc := bl_trans Bc hb))))
      refine bodyPost_ret (v := .tuple #[.slice none 0 0, .int .i64 5]) (by simp [results, Try.results40, go_sem] <;> (first | exact ⟨⟨rfl, rfl⟩, rfl⟩ | exact ⟨rfl, rfl, rfl, rfl⟩ | exact ⟨rfl, rfl, rfl⟩ | exact ⟨rfl, rfl⟩ | rfl)) rfl ⟨rfl, bl_trans B0 Bc⟩
    · rw [h1, h2] at hb0
      cases l1 : ltK .f64 hx 4472074429978902528
      · rw [l1] at hb0
        have l2 : ltK .f64 hy 4472074429978902528 = true := by simpa using hb0
        go_enter Try.func40, Try.ntmps40
        go_wp2_with (first | (go_at_call 11; refine (vWithin_any _ _ _ _).mono ?_; rintro e w' ⟨rfl, hb⟩; (first | (rw [h1]; have Bc := hb; have z2 := keep Bc zz.2.1; have z3 := keep Bc zz.2.2) | (rw [h2]; replace Bc := bl_trans Bc hb; replace z2 := keep hb z2; replace z3 := keep hb z3))))
        refine bodyPost_ret (v := .tuple #[.slice none 0 0, .int .i64 5]) (by simp [results, Try.results40, go_sem] <;> (first | exact ⟨⟨rfl, rfl⟩, rfl⟩ | exact ⟨rfl, rfl, rfl, rfl⟩ | exact ⟨rfl, rfl, rfl⟩ | exact ⟨rfl, rfl⟩ | rfl)) rfl ⟨rfl, bl_trans B0 Bc⟩
      · go_enter Try.func40, Try.ntmps40
        go_wp2_with (first | (go_at_call 11; refine (vWithin_any _ _ _ _).mono ?_; rintro e w' ⟨rfl, hb⟩; (first | (rw [h1]; have Bc := hb; have z2 := keep Bc zz.2.1; have z3 := keep Bc zz.2.2) | (rw [h2]; replace Bc := bl_trans Bc hb; replace z2 := keep hb z2; replace z3 := keep hb z3))))
        refine bodyPost_ret (v := .tuple #[.slice none 0 0, .int .i64 5]) (by simp [results, Try.results40, go_sem] <;> (first | exact ⟨⟨rfl, rfl⟩, rfl⟩ | exact ⟨rfl, rfl, rfl, rfl⟩ | exact ⟨rfl, rfl, rfl⟩ | exact ⟨rfl, rfl⟩ | rfl)) rfl ⟨rfl, bl_trans B0 Bc⟩

set_option maxHeartbeats 2000000 in
theorem rrect_bad (cx cy hx hy : Nat) (w : World) (o1 : okK .f64 cx) (o2 : okK .f64 cy) (o3 : okK .f64 hx) (o4 : okK .f64 hy) (hb0 : rcB cx cy hx hy = false) : Calls Try.prog 41 #[.agg #[.float .f64 cx, .float .f64 cy], .agg #[.float .f64 hx, .float .f64 hy]] w fun e w' => e = .returned (.tuple #[.slice none 0 0, .int .i64 5]) ∧ Bel w w' := by
  have zz : ((w.alloc (.cells #[.float .f64 cx, .float .f64 cy] 24)).alloc (.cells #[.float .f64 hx, .float .f64 hy] 24)).cell? ⟨w.heap.size, 0, none⟩ = some (.float .f64 cx) ∧ ((w.alloc (.cells #[.float .f64 cx, .float .f64 cy] 24)).alloc (.cells #[.float .f64 hx, .float .f64 hy] 24)).cell? ⟨w.heap.size + 1, 0, none⟩ = some (.float .f64 hx) ∧ ((w.alloc (.cells #[.float .f64 cx, .float .f64 cy] 24)).alloc (.cells #[.float .f64 hx, .float .f64 hy] 24)).cell? ⟨w.heap.size + 1, 1, none⟩ = some (.float .f64 hy) := ⟨up_alloc (cell_own rfl _ _ _).1, (cell_own (by simp) _ _ _).1, (cell_own (by simp) _ _ _).2⟩
  have zy : ((w.alloc (.cells #[.float .f64 cx, .float .f64 cy] 24)).alloc (.cells #[.float .f64 hx, .float .f64 hy] 24)).cell? ⟨w.heap.size, 1, none⟩ = some (.float .f64 cy) := up_alloc (cell_own rfl _ _ _).2
  have B0 : Bel w ((w.alloc (.cells #[.float .f64 cx, .float .f64 cy] 24)).alloc (.cells #[.float .f64 hx, .float .f64 hy] 24)) := bl_alloc (bl_alloc (bl_refl w) _ _) _ _
  have c1 := cmp_lt .f64
  have om : okK .f64 4787326403894837248 := by rw [okK64]; decide
  unfold rcB at hb0
  cases h1 : (withinK .f64 cx 4787326403894837248 && withinK .f64 cy 4787326403894837248)
  · go_enter Try.func41, Try.ntmps41
    go_wp2_with (first | (go_at_call 69; refine (rWithin_any _ _ _ (by with_reducible assumption) (by with_reducible assumption) om _).mono ?_; rintro e w' ⟨rfl, hb⟩; (first | (rw [h1]; have Bc := hb; have z2 := keep Bc zz.2.1; have z3 := keep Bc zz.2.2) | (rw [h2]; replace Bc := bl_trans Bc hb))))
    refine bodyPost_ret (v := .tuple #[.slice none 0 0, .int .i64 5]) (by simp [results, Try.results41, go_sem] <;> (first | exact ⟨⟨rfl, rfl⟩, rfl⟩ | exact ⟨rfl, rfl, rfl, rfl⟩ | exact ⟨rfl, rfl, rfl⟩ | exact ⟨rfl, rfl⟩ | rfl)) rfl ⟨rfl, bl_trans B0 Bc⟩
  · cases h2 : (withinK .f64 hx 4787326403894837248 && withinK .f64 hy 4787326403894837248)
    · go_enter Try.func41, Try.ntmps41
      go_wp2_with (first | (go_at_call 69; refine (rWithin_any _ _ _ (by with_reducible assumption) (by with_reducible assumption) om _).mono ?_; rintro e w' ⟨rfl, hb⟩; (first | (rw [h1]; have Bc := hb; have z2 := keep Bc zz.2.1; have z3 := keep Bc zz.2.2) | (rw [h2]; replace Bc := bl_trans Bc hb))))
      refine bodyPost_ret (v := .tuple #[.slice none 0 0, .int .i64 5]) (by simp [results, Try.results41, go_sem] <;> (first | exact ⟨⟨rfl, rfl⟩, rfl⟩ | exact ⟨rfl, rfl, rfl, rfl⟩ | exact ⟨rfl, rfl, rfl⟩ | exact ⟨rfl, rfl⟩ | rfl)) rfl ⟨rfl, bl_trans B0 Bc⟩
    · rw [h1, h2] at hb0
      cases l1 : ltK .f64 hx 4472074429978902528
      · rw [l1] at hb0
        have l2 : ltK .f64 hy 4472074429978902528 = true := by simpa using hb0
        go_enter Try.func41, Try.ntmps41
        go_wp2_with (first | (go_at_call 69; refine (rWithin_any _ _ _ (by with_reducible assumption) (by with_reducible assumption) om _).mono ?_; rintro e w' ⟨rfl, hb⟩; (first | (rw [h1]; have Bc := hb; have z2 := keep Bc zz.2.1; have z3 := keep Bc zz.2.2) | (rw [h2]; replace Bc := bl_trans Bc hb; replace z2 := keep hb z2; replace z3 := keep hb z3))))
        refine bodyPost_ret (v := .tuple #[.slice none 0 0, .int .i64 5]) (by simp [results, Try.results41, go_sem] <;> (first | exact ⟨⟨rfl, rfl⟩, rfl⟩ | exact ⟨rfl, rfl, rfl, rfl⟩ | exact ⟨rfl, rfl, rfl⟩ | exact ⟨rfl, rfl⟩ | rfl)) rfl ⟨rfl, bl_trans B0 Bc⟩
      · go_enter Try.func41, Try.ntmps41
        go_wp2_with (first | (go_at_call 69; refine (rWithin_any _ _ _ (by with_reducible assumption) (by with_reducible assumption) om _).mono ?_; rintro e w' ⟨rfl, hb⟩; (first | (rw [h1]; have Bc := hb; have z2 := keep Bc zz.2.1; have z3 := keep Bc zz.2.2) | (rw [h2]; replace Bc := bl_trans Bc hb; replace z2 := keep hb z2; replace z3 := keep hb z3))))
        refine bodyPost_ret (v := .tuple #[.slice none 0 0, .int .i64 5]) (by simp [results, Try.results41, go_sem] <;> (first | exact ⟨⟨rfl, rfl⟩, rfl⟩ | exact ⟨rfl, rfl, rfl, rfl⟩ | exact ⟨rfl, rfl, rfl⟩ | exact ⟨rfl, rfl⟩ | rfl)) rfl ⟨rfl, bl_trans B0 Bc⟩

theorem rc_good {cx cy hx hy : Nat} (o1 : okK .f64 cx) (o2 : okK .f64 cy) (o3 : okK .f64 hx) (o4 : okK .f64 hy) (h : rcB cx cy hx hy = true) : ((withinK .f64 cx 4787326403894837248 && withinK .f64 cy 4787326403894837248) = true) ∧ ((withinK .f64 hx 4787326403894837248 && withinK .f64 hy 4787326403894837248) = true) ∧ ltK .f64 hx 4472074429978902528 = false ∧ ltK .f64 hy 4472074429978902528 = false ∧ Bd 40 cx ∧ Bd 40 cy ∧ Bd 40 hx ∧ Bd 40 hy := by
  unfold rcB at h
  rw [Bool.and_eq_true, Bool.and_eq_true, Bool.and_eq_true] at h
  obtain ⟨⟨⟨h1, h2⟩, h3⟩, h4⟩ := h
  have a := h1
  have b := h2
  rw [Bool.and_eq_true] at a b
  exact ⟨h1, h2, by simpa using h3, by simpa using h4, bd_within o1 a.1, bd_within o2 a.2, bd_within o3 b.1, bd_within o4 b.2⟩

set_option maxHeartbeats 4000000 in
theorem rect_ok (cx cy hx hy : Nat) (w : World) (o1 : okK .f64 cx) (o2 : okK .f64 cy) (o3 : okK .f64 hx) (o4 : okK .f64 hy) (hb0 : rcB cx cy hx hy = true) (hch : chkE (px (rcL cx cy hx hy)) (py (rcL cx cy hx hy)) 4 = 0) : Calls Try.prog 40 #[.agg #[.float .f64 cx, .float .f64 cy], .agg #[.float .f64 hx, .float .f64 hy]] w fun e w' => ∃ r, e = .returned (.tuple #[.slice (some ⟨r, 0, none⟩) 4 4, .int .i64 0]) ∧ w.heap.size ≤ r ∧ Sl w' r 0 4 (px (rcL cx cy hx hy)) (py (rcL cx cy hx hy)) ∧ (∀ o, w'.frozen? ⟨r, o, none⟩ = false) ∧ Bel w w' := by
  have zz : ((w.alloc (.cells #[.float .f64 cx, .float .f64 cy] 24)).alloc (.cells #[.float .f64 hx, .float .f64 hy] 24)).cell? ⟨w.heap.size, 0, none⟩ = some (.float .f64 cx) ∧ ((w.alloc (.cells #[.float .f64 cx, .float .f64 cy] 24)).alloc (.cells #[.float .f64 hx, .float .f64 hy] 24)).cell? ⟨w.heap.size + 1, 0, none⟩ = some (.float .f64 hx) ∧ ((w.alloc (.cells #[.float .f64 cx, .float .f64 cy] 24)).alloc (.cells #[.float .f64 hx, .float .f64 hy] 24)).cell? ⟨w.heap.size + 1, 1, none⟩ = some (.float .f64 hy) := ⟨up_alloc (cell_own rfl _ _ _).1, (cell_own (by simp) _ _ _).1, (cell_own (by simp) _ _ _).2⟩
  have zy : ((w.alloc (.cells #[.float .f64 cx, .float .f64 cy] 24)).alloc (.cells #[.float .f64 hx, .float .f64 hy] 24)).cell? ⟨w.heap.size, 1, none⟩ = some (.float .f64 cy) := up_alloc (cell_own rfl _ _ _).2
  have B0 : Bel w ((w.alloc (.cells #[.float .f64 cx, .float .f64 cy] 24)).alloc (.cells #[.float .f64 hx, .float .f64 hy] 24)) := bl_alloc (bl_alloc (bl_refl w) _ _) _ _
  have c1 := cmp_lt .f64
  have om : okK .f64 4787326403894837248 := by rw [okK64]; decide
  obtain ⟨h1, h2, l1, l2, d1, d2, d3, d4⟩ := rc_good o1 o2 o3 o4 hb0
  go_enter Try.func40, Try.ntmps40
  go_wp2_with (first | (go_at_call 11; refine (vWithin_any _ _ _ _).mono ?_; rintro e w' ⟨rfl, hb⟩; (first | (have zn := z0; clear zn; rw [h2]; replace Bc := bl_trans Bc hb; replace z0 := keep hb z0; replace z1 := keep hb z1; replace z2 := keep hb z2; replace z3 := keep hb z3) | (rw [h1]; have Bc := hb; have z0 := keep hb zz.1; have z1 := keep hb zy; have z2 := keep Bc zz.2.1; have z3 := keep Bc zz.2.2))))
  have Bq : Bel w _ := bl_trans B0 Bc
  have zq := Bq.size
  refine wp_region_multiA 8 (fun i v => match i with | 0 => v = .agg #[.float .f64 cx, .float .f64 cy] | 1 => v = .agg #[.float .f64 hx, .float .f64 hy] | 2 => v = .agg #[.float .f64 (Dv .sub cx hx), .float .f64 (Dv .sub cy hy)] | 3 => v = .agg #[.float .f64 cx, .float .f64 cy] | 4 => v = .agg #[.float .f64 hx, .float .f64 hy] | 5 => v = .agg #[.float .f64 (Dv .add cx hx), .float .f64 (Dv .add cy hy)] | 6 => ∃ b, v = .pointer (some ⟨b, 0, none⟩) | 7 => ∃ b, v = .pointer (some ⟨b, 0, none⟩) | _ => False) (fun i => match i with | 6 => some (Obj.cells #[.float .f64 0, .float .f64 0] 24) | 7 => some (Obj.cells #[.float .f64 0, .float .f64 0] 24) | _ => none) ?A_wf (by kernel_rfl) (by kernel_rfl) ?hA_wf ?ha_wf ?hq_wf [8, 9] rfl ?ht_wf
  case hA_wf =>
    intro s
    simp only [putL, dstO, Act.put, List.getElem?_toArray, List.getElem?_cons_zero, List.getElem?_cons_succ, Option.bind_some, List.setIfInBounds_toArray, List.set_cons_zero, List.set_cons_succ, if_true]
    all_goals exact rfl
  case ha_wf =>
    intro i o ob hi ho hal
    rcases (show i = 0 ∨ i = 1 ∨ i = 2 ∨ i = 3 ∨ i = 4 ∨ i = 5 ∨ i = 6 ∨ i = 7 by omega) with rfl | rfl | rfl | rfl | rfl | rfl | rfl | rfl
    · cases hal
    · cases hal
    · cases hal
    · cases hal
    · cases hal
    · cases hal
    · cases ho; cases hal; exact ⟨fun v hv => ⟨_, hv.choose_spec.2⟩, ⟨_, _, rfl⟩, fun A W => by go_simp⟩
    · cases ho; cases hal; exact ⟨fun v hv => ⟨_, hv.choose_spec.2⟩, ⟨_, _, rfl⟩, fun A W => by go_simp⟩
  case hq_wf =>
    intro i o hi ho hal s hs W hb K hK
    have y0 := keep hb z0; have y1 := keep hb z1; have y2 := keep hb z2; have y3 := keep hb z3
    rcases (show i = 0 ∨ i = 1 ∨ i = 2 ∨ i = 3 ∨ i = 4 ∨ i = 5 ∨ i = 6 ∨ i = 7 by omega) with rfl | rfl | rfl | rfl | rfl | rfl | rfl | rfl
    · cases ho
      simp only [Act.put, List.setIfInBounds_toArray, List.set_cons_zero, List.set_cons_succ] at hK
      clear hs
      go_simp
      all_goals (try go_wp2_with (first | (go_at_call 44; refine (vSub_d _ (by with_reducible assumption) (by with_reducible assumption) (by with_reducible assumption) (by with_reducible assumption)).mono ?_; rintro e w1 ⟨rfl, hb1⟩) | (go_at_call 58; refine (vAdd_d _ (by with_reducible assumption) (by with_reducible assumption) (by with_reducible assumption) (by with_reducible assumption)).mono ?_; rintro e w1 ⟨rfl, hb1⟩)))
      all_goals first | exact hK.out _ _ rfl (bl_refl _) | exact hK.out _ _ rfl (by assumption) | exact hK.out _ _ (by assumption) (by assumption)
    · cases ho
      simp only [Act.put, List.setIfInBounds_toArray, List.set_cons_zero, List.set_cons_succ] at hK
      clear hs
      go_simp
      all_goals (try go_wp2_with (first | (go_at_call 44; refine (vSub_d _ (by with_reducible assumption) (by with_reducible assumption) (by with_reducible assumption) (by with_reducible assumption)).mono ?_; rintro e w1 ⟨rfl, hb1⟩) | (go_at_call 58; refine (vAdd_d _ (by with_reducible assumption) (by with_reducible assumption) (by with_reducible assumption) (by with_reducible assumption)).mono ?_; rintro e w1 ⟨rfl, hb1⟩)))
      all_goals first | exact hK.out _ _ rfl (bl_refl _) | exact hK.out _ _ rfl (by assumption) | exact hK.out _ _ (by assumption) (by assumption)
    · cases ho
      have e0 : s 0 = _ := hs 0 (by decide) (by kernel_rfl)
      have e1 : s 1 = _ := hs 1 (by decide) (by kernel_rfl)
      simp only [e0, e1] at hK ⊢
      simp only [Act.put, List.setIfInBounds_toArray, List.set_cons_zero, List.set_cons_succ] at hK
      clear hs
      go_simp
      all_goals (try go_wp2_with (first | (go_at_call 44; refine (vSub_d _ (by with_reducible assumption) (by with_reducible assumption) (by with_reducible assumption) (by with_reducible assumption)).mono ?_; rintro e w1 ⟨rfl, hb1⟩) | (go_at_call 58; refine (vAdd_d _ (by with_reducible assumption) (by with_reducible assumption) (by with_reducible assumption) (by with_reducible assumption)).mono ?_; rintro e w1 ⟨rfl, hb1⟩)))
      all_goals first | exact hK.out _ _ rfl (bl_refl _) | exact hK.out _ _ rfl (by assumption) | exact hK.out _ _ (by assumption) (by assumption)
    · cases ho
      simp only [Act.put, List.setIfInBounds_toArray, List.set_cons_zero, List.set_cons_succ] at hK
      clear hs
      go_simp
      all_goals (try go_wp2_with (first | (go_at_call 44; refine (vSub_d _ (by with_reducible assumption) (by with_reducible assumption) (by with_reducible assumption) (by with_reducible assumption)).mono ?_; rintro e w1 ⟨rfl, hb1⟩) | (go_at_call 58; refine (vAdd_d _ (by with_reducible assumption) (by with_reducible assumption) (by with_reducible assumption) (by with_reducible assumption)).mono ?_; rintro e w1 ⟨rfl, hb1⟩)))
      all_goals first | exact hK.out _ _ rfl (bl_refl _) | exact hK.out _ _ rfl (by assumption) | exact hK.out _ _ (by assumption) (by assumption)
    · cases ho
      simp only [Act.put, List.setIfInBounds_toArray, List.set_cons_zero, List.set_cons_succ] at hK
      clear hs
      go_simp
      all_goals (try go_wp2_with (first | (go_at_call 44; refine (vSub_d _ (by with_reducible assumption) (by with_reducible assumption) (by with_reducible assumption) (by with_reducible assumption)).mono ?_; rintro e w1 ⟨rfl, hb1⟩) | (go_at_call 58; refine (vAdd_d _ (by with_reducible assumption) (by with_reducible assumption) (by with_reducible assumption) (by with_reducible assumption)).mono ?_; rintro e w1 ⟨rfl, hb1⟩)))
      all_goals first | exact hK.out _ _ rfl (bl_refl _) | exact hK.out _ _ rfl (by assumption) | exact hK.out _ _ (by assumption) (by assumption)
    · cases ho
      have e3 : s 3 = _ := hs 3 (by decide) (by kernel_rfl)
      have e4 : s 4 = _ := hs 4 (by decide) (by kernel_rfl)
      simp only [e3, e4] at hK ⊢
      simp only [Act.put, List.setIfInBounds_toArray, List.set_cons_zero, List.set_cons_succ] at hK
      clear hs
      go_simp
      all_goals (try go_wp2_with (first | (go_at_call 44; refine (vSub_d _ (by with_reducible assumption) (by with_reducible assumption) (by with_reducible assumption) (by with_reducible assumption)).mono ?_; rintro e w1 ⟨rfl, hb1⟩) | (go_at_call 58; refine (vAdd_d _ (by with_reducible assumption) (by with_reducible assumption) (by with_reducible assumption) (by with_reducible assumption)).mono ?_; rintro e w1 ⟨rfl, hb1⟩)))
      all_goals first | exact hK.out _ _ rfl (bl_refl _) | exact hK.out _ _ rfl (by assumption) | exact hK.out _ _ (by assumption) (by assumption)
    · cases hal
    · cases hal
  case ht_wf =>
    intro s hs W hb hJ
    have e0 : s 0 = _ := hs 0 (by decide)
    have e1 : s 1 = _ := hs 1 (by decide)
    have e2 : s 2 = _ := hs 2 (by decide)
    have e3 : s 3 = _ := hs 3 (by decide)
    have e4 : s 4 = _ := hs 4 (by decide)
    have e5 : s 5 = _ := hs 5 (by decide)
    obtain ⟨p6, e6, n6, h6⟩ := laid_at hJ 6 (by decide) rfl
    obtain ⟨p7, e7, n7, h7⟩ := laid_at hJ 7 (by decide) rfl
    have ne67 := laid_ne hJ 6 7 (by decide) (by decide) (by decide) rfl rfl e6 e7
    have c60 : W.cell? ⟨p6, 0, none⟩ = some (.float .f64 0) := heap_cell h6 rfl
    have c61 : W.cell? ⟨p6, 1, none⟩ = some (.float .f64 0) := heap_cell h6 rfl
    have f6 := fun k => heap_frozen (i := k) h6
    have c70 : W.cell? ⟨p7, 0, none⟩ = some (.float .f64 0) := heap_cell h7 rfl
    have c71 : W.cell? ⟨p7, 1, none⟩ = some (.float .f64 0) := heap_cell h7 rfl
    have f7 := fun k => heap_frozen (i := k) h7
    simp only [e0, e1, e2, e3, e4, e5, e6, e7]
    clear hs
    refine tail_step rfl (fun K hK => ?_)
    go_simp
    refine hK.out _ _ ?_
    clear hK K
    refine tail_step rfl (fun K hK => ?_)
    go_simp
    refine hK.out _ _ ?_
    clear hK K
    refine tail_end ?_
    have ne76 := ne67.symm
    (try simp at n6 n7)
    have BW : Bel w W := by refine bl_trans (b := _) ?_ hb; repeat (first | exact Bq | apply bl_alloc | apply bl_drew)
    have BW0 := BW
    obtain ⟨wf0, hN, d60, d61, fr0, bN⟩ := put2_all (p := .float .f64 (Dv .sub cx hx)) (q := .float .f64 (Dv .sub cy hy)) c60 c61
    rw [← hN]
    replace BW := bN w BW (by omega)
    replace c70 := (fr0 _ 0 (.inl ne76)).trans c70
    replace c71 := (fr0 _ 1 (.inl ne76)).trans c71
    clear hN fr0 bN
    obtain ⟨wf, hN, d70, d71, fr1, bN⟩ := put2_all (p := .float .f64 (Dv .add cx hx)) (q := .float .f64 (Dv .add cy hy)) c70 c71
    rw [← hN]
    replace BW := bN w BW (by omega)
    replace d60 := (fr1 _ 0 (.inl ne67)).trans d60
    replace d61 := (fr1 _ 1 (.inl ne67)).trans d61
    clear hN fr1 bN
    have k_p6_0 : wf.cell? ⟨p6, 0, none⟩ = some (.float .f64 (Dv .sub cx hx)) := d60
    have k_p6_1 : wf.cell? ⟨p6, 1, none⟩ = some (.float .f64 (Dv .sub cy hy)) := d61
    clear d60 d61
    have k_p7_0 : wf.cell? ⟨p7, 0, none⟩ = some (.float .f64 (Dv .add cx hx)) := d70
    have k_p7_1 : wf.cell? ⟨p7, 1, none⟩ = some (.float .f64 (Dv .add cy hy)) := d71
    clear d70 d71
    have l6 : p6 < wf.heap.size := World.block_lt_of_cell? wf _ k_p6_0
    have l7 : p7 < wf.heap.size := World.block_lt_of_cell? wf _ k_p7_0
    have z_p6 := fun k => (BW.2 _).trans ((BW0.2 ⟨p6, k, none⟩).symm.trans (f6 k))
    have z_p7 := fun k => (BW.2 _).trans ((BW0.2 ⟨p7, k, none⟩).symm.trans (f7 k))
    have B := hide BW
    clear BW BW0 hJ h6 h7 f6 f7 e0 e1 e2 e3 e4 e5 e6 e7
    have Bf := unhide B
    clear B
    have BW := bl_alloc Bf #[.float .f64 (Dv .sub cx hx), .float .f64 (Dv .sub cy hy), .float .f64 (Dv .add cx hx), .float .f64 (Dv .sub cy hy), .float .f64 (Dv .add cx hx), .float .f64 (Dv .add cy hy), .float .f64 (Dv .sub cx hx), .float .f64 (Dv .add cy hy)] 24
    have ls := rc_laid wf cx cy hx hy
    go_wp2_with (first | (go_at_call 29; refine (chk_some _ 0 4 4 (px (rcL cx cy hx hy)) (py (rcL cx cy hx hy)) _ ls (rc_oks d1 d2 d3 d4) (by decide) (by unfold maxLen; decide) (by decide)).mono ?_; rintro e w_9 ⟨rfl, hb9⟩; rw [hch]))
    refine bodyPost_ret (v := .tuple #[.slice (some ⟨wf.heap.size, 0, none⟩) 4 4, .int .i64 0]) (by simp [results, Try.results40, go_sem] <;> (first | exact ⟨⟨rfl, rfl⟩, rfl⟩ | exact ⟨rfl, rfl, rfl, rfl⟩ | exact ⟨rfl, rfl, rfl⟩ | exact ⟨rfl, rfl⟩ | rfl)) rfl ⟨_, rfl, (Bf).size, ls.bel hb9, fun o => (hb9.2 _).trans (fz_alloc (fresh_frozen (Nat.le_refl _))), bl_trans BW hb9⟩

set_option maxHeartbeats 4000000 in
theorem rect_err (cx cy hx hy : Nat) (w : World) (o1 : okK .f64 cx) (o2 : okK .f64 cy) (o3 : okK .f64 hx) (o4 : okK .f64 hy) (hb0 : rcB cx cy hx hy = true) (hch : ¬ chkE (px (rcL cx cy hx hy)) (py (rcL cx cy hx hy)) 4 = 0) : Calls Try.prog 40 #[.agg #[.float .f64 cx, .float .f64 cy], .agg #[.float .f64 hx, .float .f64 hy]] w fun e w' => e = .returned (.tuple #[.slice none 0 0, .int .i64 (chkE (px (rcL cx cy hx hy)) (py (rcL cx cy hx hy)) 4)]) ∧ Bel w w' := by
  have zz : ((w.alloc (.cells #[.float .f64 cx, .float .f64 cy] 24)).alloc (.cells #[.float .f64 hx, .float .f64 hy] 24)).cell? ⟨w.heap.size, 0, none⟩ = some (.float .f64 cx) ∧ ((w.alloc (.cells #[.float .f64 cx, .float .f64 cy] 24)).alloc (.cells #[.float .f64 hx, .float .f64 hy] 24)).cell? ⟨w.heap.size + 1, 0, none⟩ = some (.float .f64 hx) ∧ ((w.alloc (.cells #[.float .f64 cx, .float .f64 cy] 24)).alloc (.cells #[.float .f64 hx, .float .f64 hy] 24)).cell? ⟨w.heap.size + 1, 1, none⟩ = some (.float .f64 hy) := ⟨up_alloc (cell_own rfl _ _ _).1, (cell_own (by simp) _ _ _).1, (cell_own (by simp) _ _ _).2⟩
  have zy : ((w.alloc (.cells #[.float .f64 cx, .float .f64 cy] 24)).alloc (.cells #[.float .f64 hx, .float .f64 hy] 24)).cell? ⟨w.heap.size, 1, none⟩ = some (.float .f64 cy) := up_alloc (cell_own rfl _ _ _).2
  have B0 : Bel w ((w.alloc (.cells #[.float .f64 cx, .float .f64 cy] 24)).alloc (.cells #[.float .f64 hx, .float .f64 hy] 24)) := bl_alloc (bl_alloc (bl_refl w) _ _) _ _
  have c1 := cmp_lt .f64
  have om : okK .f64 4787326403894837248 := by rw [okK64]; decide
  obtain ⟨h1, h2, l1, l2, d1, d2, d3, d4⟩ := rc_good o1 o2 o3 o4 hb0
  go_enter Try.func40, Try.ntmps40
  go_wp2_with (first | (go_at_call 11; refine (vWithin_any _ _ _ _).mono ?_; rintro e w' ⟨rfl, hb⟩; (first | (have zn := z0; clear zn; rw [h2]; replace Bc := bl_trans Bc hb; replace z0 := keep hb z0; replace z1 := keep hb z1; replace z2 := keep hb z2; replace z3 := keep hb z3) | (rw [h1]; have Bc := hb; have z0 := keep hb zz.1; have z1 := keep hb zy; have z2 := keep Bc zz.2.1; have z3 := keep Bc zz.2.2))))
  have Bq : Bel w _ := bl_trans B0 Bc
  have zq := Bq.size
  refine wp_region_multiA 8 (fun i v => match i with | 0 => v = .agg #[.float .f64 cx, .float .f64 cy] | 1 => v = .agg #[.float .f64 hx, .float .f64 hy] | 2 => v = .agg #[.float .f64 (Dv .sub cx hx), .float .f64 (Dv .sub cy hy)] | 3 => v = .agg #[.float .f64 cx, .float .f64 cy] | 4 => v = .agg #[.float .f64 hx, .float .f64 hy] | 5 => v = .agg #[.float .f64 (Dv .add cx hx), .float .f64 (Dv .add cy hy)] | 6 => ∃ b, v = .pointer (some ⟨b, 0, none⟩) | 7 => ∃ b, v = .pointer (some ⟨b, 0, none⟩) | _ => False) (fun i => match i with | 6 => some (Obj.cells #[.float .f64 0, .float .f64 0] 24) | 7 => some (Obj.cells #[.float .f64 0, .float .f64 0] 24) | _ => none) ?A_wf (by kernel_rfl) (by kernel_rfl) ?hA_wf ?ha_wf ?hq_wf [8, 9] rfl ?ht_wf
  case hA_wf =>
    intro s
    simp only [putL, dstO, Act.put, List.getElem?_toArray, List.getElem?_cons_zero, List.getElem?_cons_succ, Option.bind_some, List.setIfInBounds_toArray, List.set_cons_zero, List.set_cons_succ, if_true]
    all_goals exact rfl
  case ha_wf =>
    intro i o ob hi ho hal
    rcases (show i = 0 ∨ i = 1 ∨ i = 2 ∨ i = 3 ∨ i = 4 ∨ i = 5 ∨ i = 6 ∨ i = 7 by omega) with rfl | rfl | rfl | rfl | rfl | rfl | rfl | rfl
    · cases hal
    · cases hal
    · cases hal
    · cases hal
    · cases hal
    · cases hal
    · cases ho; cases hal; exact ⟨fun v hv => ⟨_, hv.choose_spec.2⟩, ⟨_, _, rfl⟩, fun A W => by go_simp⟩
    · cases ho; cases hal; exact ⟨fun v hv => ⟨_, hv.choose_spec.2⟩, ⟨_, _, rfl⟩, fun A W => by go_simp⟩
  case hq_wf =>
    intro i o hi ho hal s hs W hb K hK
    have y0 := keep hb z0; have y1 := keep hb z1; have y2 := keep hb z2; have y3 := keep hb z3
    rcases (show i = 0 ∨ i = 1 ∨ i = 2 ∨ i = 3 ∨ i = 4 ∨ i = 5 ∨ i = 6 ∨ i = 7 by omega) with rfl | rfl | rfl | rfl | rfl | rfl | rfl | rfl
    · cases ho
      simp only [Act.put, List.setIfInBounds_toArray, List.set_cons_zero, List.set_cons_succ] at hK
      clear hs
      go_simp
      all_goals (try go_wp2_with (first | (go_at_call 44; refine (vSub_d _ (by with_reducible assumption) (by with_reducible assumption) (by with_reducible assumption) (by with_reducible assumption)).mono ?_; rintro e w1 ⟨rfl, hb1⟩) | (go_at_call 58; refine (vAdd_d _ (by with_reducible assumption) (by with_reducible assumption) (by with_reducible assumption) (by with_reducible assumption)).mono ?_; rintro e w1 ⟨rfl, hb1⟩)))
      all_goals first | exact hK.out _ _ rfl (bl_refl _) | exact hK.out _ _ rfl (by assumption) | exact hK.out _ _ (by assumption) (by assumption)
    · cases ho
      simp only [Act.put, List.setIfInBounds_toArray, List.set_cons_zero, List.set_cons_succ] at hK
      clear hs
      go_simp
      all_goals (try go_wp2_with (first | (go_at_call 44; refine (vSub_d _ (by with_reducible assumption) (by with_reducible assumption) (by with_reducible assumption) (by with_reducible assumption)).mono ?_; rintro e w1 ⟨rfl, hb1⟩) | (go_at_call 58; refine (vAdd_d _ (by with_reducible assumption) (by with_reducible assumption) (by with_reducible assumption) (by with_reducible assumption)).mono ?_; rintro e w1 ⟨rfl, hb1⟩)))
      all_goals first | exact hK.out _ _ rfl (bl_refl _) | exact hK.out _ _ rfl (by assumption) | exact hK.out _ _ (by assumption) (by assumption)
    · cases ho
      have e0 : s 0 = _ := hs 0 (by decide) (by kernel_rfl)
      have e1 : s 1 = _ := hs 1 (by decide) (by kernel_rfl)
      simp only [e0, e1] at hK ⊢
      simp only [Act.put, List.setIfInBounds_toArray, List.set_cons_zero, List.set_cons_succ] at hK
      clear hs
      go_simp
      all_goals (try go_wp2_with (first | (go_at_call 44; refine (vSub_d _ (by with_reducible assumption) (by with_reducible assumption) (by with_reducible assumption) (by with_reducible assumption)).mono ?_; rintro e w1 ⟨rfl, hb1⟩) | (go_at_call 58; refine (vAdd_d _ (by with_reducible assumption) (by with_reducible assumption) (by with_reducible assumption) (by with_reducible assumption)).mono ?_; rintro e w1 ⟨rfl, hb1⟩)))
      all_goals first | exact hK.out _ _ rfl (bl_refl _) | exact hK.out _ _ rfl (by assumption) | exact hK.out _ _ (by assumption) (by assumption)
    · cases ho
      simp only [Act.put, List.setIfInBounds_toArray, List.set_cons_zero, List.set_cons_succ] at hK
      clear hs
      go_simp
      all_goals (try go_wp2_with (first | (go_at_call 44; refine (vSub_d _ (by with_reducible assumption) (by with_reducible assumption) (by with_reducible assumption) (by with_reducible assumption)).mono ?_; rintro e w1 ⟨rfl, hb1⟩) | (go_at_call 58; refine (vAdd_d _ (by with_reducible assumption) (by with_reducible assumption) (by with_reducible assumption) (by with_reducible assumption)).mono ?_; rintro e w1 ⟨rfl, hb1⟩)))
      all_goals first | exact hK.out _ _ rfl (bl_refl _) | exact hK.out _ _ rfl (by assumption) | exact hK.out _ _ (by assumption) (by assumption)
    · cases ho
      simp only [Act.put, List.setIfInBounds_toArray, List.set_cons_zero, List.set_cons_succ] at hK
      clear hs
      go_simp
      all_goals (try go_wp2_with (first | (go_at_call 44; refine (vSub_d _ (by with_reducible assumption) (by with_reducible assumption) (by with_reducible assumption) (by with_reducible assumption)).mono ?_; rintro e w1 ⟨rfl, hb1⟩) | (go_at_call 58; refine (vAdd_d _ (by with_reducible assumption) (by with_reducible assumption) (by with_reducible assumption) (by with_reducible assumption)).mono ?_; rintro e w1 ⟨rfl, hb1⟩)))
      all_goals first | exact hK.out _ _ rfl (bl_refl _) | exact hK.out _ _ rfl (by assumption) | exact hK.out _ _ (by assumption) (by assumption)
    · cases ho
      have e3 : s 3 = _ := hs 3 (by decide) (by kernel_rfl)
      have e4 : s 4 = _ := hs 4 (by decide) (by kernel_rfl)
      simp only [e3, e4] at hK ⊢
      simp only [Act.put, List.setIfInBounds_toArray, List.set_cons_zero, List.set_cons_succ] at hK
      clear hs
      go_simp
      all_goals (try go_wp2_with (first | (go_at_call 44; refine (vSub_d _ (by with_reducible assumption) (by with_reducible assumption) (by with_reducible assumption) (by with_reducible assumption)).mono ?_; rintro e w1 ⟨rfl, hb1⟩) | (go_at_call 58; refine (vAdd_d _ (by with_reducible assumption) (by with_reducible assumption) (by with_reducible assumption) (by with_reducible assumption)).mono ?_; rintro e w1 ⟨rfl, hb1⟩)))
      all_goals first | exact hK.out _ _ rfl (bl_refl _) | exact hK.out _ _ rfl (by assumption) | exact hK.out _ _ (by assumption) (by assumption)
    · cases hal
    · cases hal
  case ht_wf =>
    intro s hs W hb hJ
    have e0 : s 0 = _ := hs 0 (by decide)
    have e1 : s 1 = _ := hs 1 (by decide)
    have e2 : s 2 = _ := hs 2 (by decide)
    have e3 : s 3 = _ := hs 3 (by decide)
    have e4 : s 4 = _ := hs 4 (by decide)
    have e5 : s 5 = _ := hs 5 (by decide)
    obtain ⟨p6, e6, n6, h6⟩ := laid_at hJ 6 (by decide) rfl
    obtain ⟨p7, e7, n7, h7⟩ := laid_at hJ 7 (by decide) rfl
    have ne67 := laid_ne hJ 6 7 (by decide) (by decide) (by decide) rfl rfl e6 e7
    have c60 : W.cell? ⟨p6, 0, none⟩ = some (.float .f64 0) := heap_cell h6 rfl
    have c61 : W.cell? ⟨p6, 1, none⟩ = some (.float .f64 0) := heap_cell h6 rfl
    have f6 := fun k => heap_frozen (i := k) h6
    have c70 : W.cell? ⟨p7, 0, none⟩ = some (.float .f64 0) := heap_cell h7 rfl
    have c71 : W.cell? ⟨p7, 1, none⟩ = some (.float .f64 0) := heap_cell h7 rfl
    have f7 := fun k => heap_frozen (i := k) h7
    simp only [e0, e1, e2, e3, e4, e5, e6, e7]
    clear hs
    refine tail_step rfl (fun K hK => ?_)
    go_simp
    refine hK.out _ _ ?_
    clear hK K
    refine tail_step rfl (fun K hK => ?_)
    go_simp
    refine hK.out _ _ ?_
    clear hK K
    refine tail_end ?_
    have ne76 := ne67.symm
    (try simp at n6 n7)
    have BW : Bel w W := by refine bl_trans (b := _) ?_ hb; repeat (first | exact Bq | apply bl_alloc | apply bl_drew)
    have BW0 := BW
    obtain ⟨wf0, hN, d60, d61, fr0, bN⟩ := put2_all (p := .float .f64 (Dv .sub cx hx)) (q := .float .f64 (Dv .sub cy hy)) c60 c61
    rw [← hN]
    replace BW := bN w BW (by omega)
    replace c70 := (fr0 _ 0 (.inl ne76)).trans c70
    replace c71 := (fr0 _ 1 (.inl ne76)).trans c71
    clear hN fr0 bN
    obtain ⟨wf, hN, d70, d71, fr1, bN⟩ := put2_all (p := .float .f64 (Dv .add cx hx)) (q := .float .f64 (Dv .add cy hy)) c70 c71
    rw [← hN]
    replace BW := bN w BW (by omega)
    replace d60 := (fr1 _ 0 (.inl ne67)).trans d60
    replace d61 := (fr1 _ 1 (.inl ne67)).trans d61
    clear hN fr1 bN
    have k_p6_0 : wf.cell? ⟨p6, 0, none⟩ = some (.float .f64 (Dv .sub cx hx)) := d60
    have k_p6_1 : wf.cell? ⟨p6, 1, none⟩ = some (.float .f64 (Dv .sub cy hy)) := d61
    clear d60 d61
    have k_p7_0 : wf.cell? ⟨p7, 0, none⟩ = some (.float .f64 (Dv .add cx hx)) := d70
    have k_p7_1 : wf.cell? ⟨p7, 1, none⟩ = some (.float .f64 (Dv .add cy hy)) := d71
    clear d70 d71
    have l6 : p6 < wf.heap.size := World.block_lt_of_cell? wf _ k_p6_0
    have l7 : p7 < wf.heap.size := World.block_lt_of_cell? wf _ k_p7_0
    have z_p6 := fun k => (BW.2 _).trans ((BW0.2 ⟨p6, k, none⟩).symm.trans (f6 k))
    have z_p7 := fun k => (BW.2 _).trans ((BW0.2 ⟨p7, k, none⟩).symm.trans (f7 k))
    have B := hide BW
    clear BW BW0 hJ h6 h7 f6 f7 e0 e1 e2 e3 e4 e5 e6 e7
    have Bf := unhide B
    clear B
    have BW := bl_alloc Bf #[.float .f64 (Dv .sub cx hx), .float .f64 (Dv .sub cy hy), .float .f64 (Dv .add cx hx), .float .f64 (Dv .sub cy hy), .float .f64 (Dv .add cx hx), .float .f64 (Dv .add cy hy), .float .f64 (Dv .sub cx hx), .float .f64 (Dv .add cy hy)] 24
    have ls := rc_laid wf cx cy hx hy
    obtain ⟨v, hv⟩ : ∃ v, chkE (px (rcL cx cy hx hy)) (py (rcL cx cy hx hy)) 4 = v := ⟨_, rfl⟩
    rw [hv] at hch
    go_wp2_with (first | (go_at_call 29; refine (chk_some _ 0 4 4 (px (rcL cx cy hx hy)) (py (rcL cx cy hx hy)) _ ls (rc_oks d1 d2 d3 d4) (by decide) (by unfold maxLen; decide) (by decide)).mono ?_; rintro e w_9 ⟨rfl, hb9⟩; rw [hv]))
    all_goals
      refine bodyPost_ret (v := .tuple #[.slice none 0 0, .int .i64 v]) (by simp [results, Try.results40, go_sem] <;> (first | exact ⟨⟨rfl, rfl⟩, rfl⟩ | exact ⟨rfl, rfl, rfl, rfl⟩ | exact ⟨rfl, rfl, rfl⟩ | exact ⟨rfl, rfl⟩ | rfl)) rfl ⟨by rw [hv], bl_trans BW hb9⟩

set_option maxHeartbeats 4000000 in
theorem rrect_ok (cx cy hx hy : Nat) (w : World) (o1 : okK .f64 cx) (o2 : okK .f64 cy) (o3 : okK .f64 hx) (o4 : okK .f64 hy) (hb0 : rcB cx cy hx hy = true) (hch : chkE (px (rcL cx cy hx hy)) (py (rcL cx cy hx hy)) 4 = 0) : Calls Try.prog 41 #[.agg #[.float .f64 cx, .float .f64 cy], .agg #[.float .f64 hx, .float .f64 hy]] w fun e w' => ∃ r, e = .returned (.tuple #[.slice (some ⟨r, 0, none⟩) 4 4, .int .i64 0]) ∧ w.heap.size ≤ r ∧ Sl w' r 0 4 (px (rcL cx cy hx hy)) (py (rcL cx cy hx hy)) ∧ (∀ o, w'.frozen? ⟨r, o, none⟩ = false) ∧ Bel w w' := by
  have zz : ((w.alloc (.cells #[.float .f64 cx, .float .f64 cy] 24)).alloc (.cells #[.float .f64 hx, .float .f64 hy] 24)).cell? ⟨w.heap.size, 0, none⟩ = some (.float .f64 cx) ∧ ((w.alloc (.cells #[.float .f64 cx, .float .f64 cy] 24)).alloc (.cells #[.float .f64 hx, .float .f64 hy] 24)).cell? ⟨w.heap.size + 1, 0, none⟩ = some (.float .f64 hx) ∧ ((w.alloc (.cells #[.float .f64 cx, .float .f64 cy] 24)).alloc (.cells #[.float .f64 hx, .float .f64 hy] 24)).cell? ⟨w.heap.size + 1, 1, none⟩ = some (.float .f64 hy) := ⟨up_alloc (cell_own rfl _ _ _).1, (cell_own (by simp) _ _ _).1, (cell_own (by simp) _ _ _).2⟩
  have zy : ((w.alloc (.cells #[.float .f64 cx, .float .f64 cy] 24)).alloc (.cells #[.float .f64 hx, .float .f64 hy] 24)).cell? ⟨w.heap.size, 1, none⟩ = some (.float .f64 cy) := up_alloc (cell_own rfl _ _ _).2
  have B0 : Bel w ((w.alloc (.cells #[.float .f64 cx, .float .f64 cy] 24)).alloc (.cells #[.float .f64 hx, .float .f64 hy] 24)) := bl_alloc (bl_alloc (bl_refl w) _ _) _ _
  have c1 := cmp_lt .f64
  have om : okK .f64 4787326403894837248 := by rw [okK64]; decide
  obtain ⟨h1, h2, l1, l2, d1, d2, d3, d4⟩ := rc_good o1 o2 o3 o4 hb0
  have q1 := fun t W => run_sub_dv Try.prog t cx hx W d1.2.1 d3.2.1 d3.1
  have q2 := fun t W => run_sub_dv Try.prog t cy hy W d2.2.1 d4.2.1 d4.1
  have q3 := fun t W => run_add_dv Try.prog t cx hx W d1.2.1 d3.2.1
  have q4 := fun t W => run_add_dv Try.prog t cy hy W d2.2.1 d4.2.1
  go_enter Try.func41, Try.ntmps41
  go_wp2_with (first | (go_at_call 69; refine (rWithin_any _ _ _ (by with_reducible assumption) (by with_reducible assumption) om _).mono ?_; rintro e w' ⟨rfl, hb⟩; (first | (have zn := z0; clear zn; rw [h2]; replace Bc := bl_trans Bc hb; replace z0 := keep hb z0; replace z1 := keep hb z1; replace z2 := keep hb z2; replace z3 := keep hb z3) | (rw [h1]; have Bc := hb; have z0 := keep hb zz.1; have z1 := keep hb zy; have z2 := keep Bc zz.2.1; have z3 := keep Bc zz.2.2))))
  have Bq := bl_trans B0 Bc
  have BW := bl_alloc Bq #[.float .f64 (Dv .sub cx hx), .float .f64 (Dv .sub cy hy), .float .f64 (Dv .add cx hx), .float .f64 (Dv .sub cy hy), .float .f64 (Dv .add cx hx), .float .f64 (Dv .add cy hy), .float .f64 (Dv .sub cx hx), .float .f64 (Dv .add cy hy)] 24
  have ls := rc_laid w' cx cy hx hy
  go_wp2_with (first | (go_at_call 30; refine (rchk_some _ 0 4 4 (px (rcL cx cy hx hy)) (py (rcL cx cy hx hy)) _ ls (rc_oks d1 d2 d3 d4) (by decide) (by unfold maxLen; decide) (by decide)).mono ?_; rintro e w_9 ⟨rfl, hb9⟩; rw [hch]))
  refine bodyPost_ret (v := .tuple #[.slice (some ⟨w'.heap.size, 0, none⟩) 4 4, .int .i64 0]) (by simp [results, Try.results41, go_sem] <;> (first | exact ⟨⟨rfl, rfl⟩, rfl⟩ | exact ⟨rfl, rfl, rfl, rfl⟩ | exact ⟨rfl, rfl, rfl⟩ | exact ⟨rfl, rfl⟩ | rfl)) rfl ⟨_, rfl, (Bq).size, ls.bel hb9, fun o => (hb9.2 _).trans (fz_alloc (fresh_frozen (Nat.le_refl _))), bl_trans BW hb9⟩

set_option maxHeartbeats 4000000 in
theorem rrect_err (cx cy hx hy : Nat) (w : World) (o1 : okK .f64 cx) (o2 : okK .f64 cy) (o3 : okK .f64 hx) (o4 : okK .f64 hy) (hb0 : rcB cx cy hx hy = true) (hch : ¬ chkE (px (rcL cx cy hx hy)) (py (rcL cx cy hx hy)) 4 = 0) : Calls Try.prog 41 #[.agg #[.float .f64 cx, .float .f64 cy], .agg #[.float .f64 hx, .float .f64 hy]] w fun e w' => e = .returned (.tuple #[.slice none 0 0, .int .i64 (chkE (px (rcL cx cy hx hy)) (py (rcL cx cy hx hy)) 4)]) ∧ Bel w w' := by
  have zz : ((w.alloc (.cells #[.float .f64 cx, .float .f64 cy] 24)).alloc (.cells #[.float .f64 hx, .float .f64 hy] 24)).cell? ⟨w.heap.size, 0, none⟩ = some (.float .f64 cx) ∧ ((w.alloc (.cells #[.float .f64 cx, .float .f64 cy] 24)).alloc (.cells #[.float .f64 hx, .float .f64 hy] 24)).cell? ⟨w.heap.size + 1, 0, none⟩ = some (.float .f64 hx) ∧ ((w.alloc (.cells #[.float .f64 cx, .float .f64 cy] 24)).alloc (.cells #[.float .f64 hx, .float .f64 hy] 24)).cell? ⟨w.heap.size + 1, 1, none⟩ = some (.float .f64 hy) := ⟨up_alloc (cell_own rfl _ _ _).1, (cell_own (by simp) _ _ _).1, (cell_own (by simp) _ _ _).2⟩
  have zy : ((w.alloc (.cells #[.float .f64 cx, .float .f64 cy] 24)).alloc (.cells #[.float .f64 hx, .float .f64 hy] 24)).cell? ⟨w.heap.size, 1, none⟩ = some (.float .f64 cy) := up_alloc (cell_own rfl _ _ _).2
  have B0 : Bel w ((w.alloc (.cells #[.float .f64 cx, .float .f64 cy] 24)).alloc (.cells #[.float .f64 hx, .float .f64 hy] 24)) := bl_alloc (bl_alloc (bl_refl w) _ _) _ _
  have c1 := cmp_lt .f64
  have om : okK .f64 4787326403894837248 := by rw [okK64]; decide
  obtain ⟨h1, h2, l1, l2, d1, d2, d3, d4⟩ := rc_good o1 o2 o3 o4 hb0
  have q1 := fun t W => run_sub_dv Try.prog t cx hx W d1.2.1 d3.2.1 d3.1
  have q2 := fun t W => run_sub_dv Try.prog t cy hy W d2.2.1 d4.2.1 d4.1
  have q3 := fun t W => run_add_dv Try.prog t cx hx W d1.2.1 d3.2.1
  have q4 := fun t W => run_add_dv Try.prog t cy hy W d2.2.1 d4.2.1
  go_enter Try.func41, Try.ntmps41
  go_wp2_with (first | (go_at_call 69; refine (rWithin_any _ _ _ (by with_reducible assumption) (by with_reducible assumption) om _).mono ?_; rintro e w' ⟨rfl, hb⟩; (first | (have zn := z0; clear zn; rw [h2]; replace Bc := bl_trans Bc hb; replace z0 := keep hb z0; replace z1 := keep hb z1; replace z2 := keep hb z2; replace z3 := keep hb z3) | (rw [h1]; have Bc := hb; have z0 := keep hb zz.1; have z1 := keep hb zy; have z2 := keep Bc zz.2.1; have z3 := keep Bc zz.2.2))))
  have Bq := bl_trans B0 Bc
  have BW := bl_alloc Bq #[.float .f64 (Dv .sub cx hx), .float .f64 (Dv .sub cy hy), .float .f64 (Dv .add cx hx), .float .f64 (Dv .sub cy hy), .float .f64 (Dv .add cx hx), .float .f64 (Dv .add cy hy), .float .f64 (Dv .sub cx hx), .float .f64 (Dv .add cy hy)] 24
  have ls := rc_laid w' cx cy hx hy
  obtain ⟨v, hv⟩ : ∃ v, chkE (px (rcL cx cy hx hy)) (py (rcL cx cy hx hy)) 4 = v := ⟨_, rfl⟩
  rw [hv] at hch
  go_wp2_with (first | (go_at_call 30; refine (rchk_some _ 0 4 4 (px (rcL cx cy hx hy)) (py (rcL cx cy hx hy)) _ ls (rc_oks d1 d2 d3 d4) (by decide) (by unfold maxLen; decide) (by decide)).mono ?_; rintro e w_9 ⟨rfl, hb9⟩; rw [hv]))
  all_goals
    refine bodyPost_ret (v := .tuple #[.slice none 0 0, .int .i64 v]) (by simp [results, Try.results41, go_sem] <;> (first | exact ⟨⟨rfl, rfl⟩, rfl⟩ | exact ⟨rfl, rfl, rfl, rfl⟩ | exact ⟨rfl, rfl, rfl⟩ | exact ⟨rfl, rfl⟩ | rfl)) rfl ⟨by rw [hv], bl_trans BW hb9⟩

end Go.Proofs.Ytdkfefbllmjnjaa
