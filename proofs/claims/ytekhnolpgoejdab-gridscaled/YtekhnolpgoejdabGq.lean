/-
  What each function of package grid answers: one contract a function.
-/
import Derived.Test.YtekhnolpgoejdabGp
import Derived.Test.YtekhnolpgoejdabGo
import Derived.Test.YtekhnolpgoejdabGm
import Derived.Laws.FloatArith
import Derived.Laws.StructEq
import Derived.Deep.DeepCutAuto
import Derived.Laws.MakeOwn
import Derived.Below
import Derived.BigQuiet
import Derived.OwnWalk
import Derived.Laws.AppendOwn
import Derived.Laws.AppendOwnNone
import Derived.WalkKit
import Derived.WalkLawsBesides
import Derived.WalkSpells
import Derived.ProofKit
import Derived.OpenShut
import Derived.Deep.RegionHeld3
import Derived.Deep.LoopGhost
namespace Go.Proofs.Ytekhnolpgoejdab
open Go.ChangeShapes Go.WideShapes Go.ChangeAt Go.RowKit Go.Shelf Go.Lib Go.Sort
set_option linter.unusedVariables false
set_option linter.unusedSimpArgs false


theorem part_int (xs : Array Value) (k : Nat) (a : Int) (w : World) (h : xs[k]? = some (.int .i64 a)) : (part 3 xs k).run Try.prog w = .ok (.int .i64 a) w := by
  unfold part
  simp [go_sem, h]
theorem run_equalIn_arr (d : Nat) (a b c e : Int) (w : World) : (Op.equalIn (d + 2) 37 (.agg #[.int .i64 a, .int .i64 b]) (.agg #[.int .i64 c, .int .i64 e])).run Try.prog w = .ok (a == c && b == e) w := by
  obtain ⟨i0, hi, hz0, hz1, hz2⟩ := info_parts info_int
  have q := fun (x y : Int) => run_equalIn_int (P := Try.prog) w d 3 .i64 .i64 x y Try.underlying3
  unfold Op.equalIn
  have p1 := part_int #[.int .i64 a, .int .i64 b] 0 a w rfl
  have p2 := part_int #[.int .i64 a, .int .i64 b] 1 b w rfl
  have p3 := part_int #[.int .i64 c, .int .i64 e] 0 c w rfl
  have p4 := part_int #[.int .i64 c, .int .i64 e] 1 e w rfl
  cases h1 : (a == c)
  · simp [run_underlying Try.underlying37, sizeOf, typeInfo, hi, hz1, List.range', p1, p2, p3, p4, q, h1]
  · cases h2 : (b == e)
    all_goals simp [run_underlying Try.underlying37, sizeOf, typeInfo, hi, hz1, List.range', p1, p2, p3, p4, q, h1, h2]
theorem eqg_pair : Try.prog.eqGuardType Try.prog.depth 37 = false := by kernel_rfl
set_option maxHeartbeats 4000000 in
theorem sameP_s (L : List (Nat × Nat)) (va vb : Value) (w : World) (ha : PRow w va L) (hb : PRow w vb L) (hl : L.length < 4611686018427387904) :
    Calls Try.prog 15 #[va, vb] w fun e w' => e = .returned (.bool true) ∧ Bel w w' := by
  obtain ⟨sa, ca, rfl, hA⟩ := ha
  obtain ⟨sb, cb, rfl, hB⟩ := hb
  obtain ⟨n, hn⟩ : ∃ n, L.length = n := ⟨_, rfl⟩
  have HN : Hid (L.length = n) := hn
  rw [hn] at hl ⊢
  clear hn
  have qA := fun (a b c e : Int) (w : World) => run_equalIn_arr 9998 a b c e w
  have qG := eqg_pair
  go_enter Try.func15, Try.ntmps15
  go_wp2
  go_loopg [5] n (fun kx s5 wr => ∃ k : Nat, s5 = .int .i64 k ∧ k ≤ n ∧ n - k ≤ kx ∧ Bel w wr)
  case atStart => exact ⟨0, rfl, by omega, by omega, bl_refl _⟩
  case round =>
    obtain ⟨k, rfl, hk, hkx, hW⟩ := hrel
    by_cases hlt : k < n
    · have hltz : (k : Int) < (n : Int) := by omega
      have hwk : IntKind.wrap .i64 ((k : Int) + 1) = (k : Int) + 1 := by rw [IntKind.wrap_i64]; omega
      have hne : L ≠ [] := fun e => by have := HN.out; rw [e] at this; simp at this; omega
      obtain ⟨g, o, hsa, hIa⟩ : ∃ g o, sa = some ⟨g, o, none⟩ ∧ Ps w g o L := by
        rcases hA with h | h
        · exact absurd h hne
        · exact h
      obtain ⟨g', o', hsb, hIb⟩ : ∃ g o, sb = some ⟨g, o, none⟩ ∧ Ps w g o L := by
        rcases hB with h | h
        · exact absurd h hne
        · exact h
      clear hA hB hne
      subst hsa hsb
      obtain ⟨r, hr⟩ : ∃ r, L[k]? = some r := ⟨_, List.getElem?_eq_getElem (by rw [HN.out]; exact hlt)⟩
      obtain ⟨x0, x1⟩ := (hIa.bel hW) k r hr
      obtain ⟨x2, x3⟩ := (hIb.bel hW) k r hr
      haveI := belBy_some wr
      have y0 := belBy_cell x0
      have y1 := belBy_cell x1
      have y2 := belBy_cell x2
      have y3 := belBy_cell x3
      go_wp2
      refine wp_region_quiet_bel (by kernel_rfl) (by kernel_rfl) ?_
      repeat (go_big_quiet_step (fail))
      refine wpQuiet_nil ?_
      rintro _ ⟨nq, rfl⟩
      go_wp2
      have hb2 := nq.h
      go_roundg (n - (k + 1))
      case measure => omega
      case rel => exact ⟨k + 1, by go_num, by omega, Nat.le_refl _, bl_trans hW hb2⟩
    · have hltz : ¬ (k : Int) < (n : Int) := by omega
      go_wp2
      go_ret
      exact ⟨rfl, hW⟩

set_option maxHeartbeats 4000000 in
theorem sameI_s (L : List Nat) (va vb : Value) (w : World) (ha : IRow w va L) (hb : IRow w vb L) (hl : L.length < 4611686018427387904) :
    Calls Try.prog 10 #[va, vb] w fun e w' => e = .returned (.bool true) ∧ Bel w w' := by
  obtain ⟨sa, ca, rfl, hA⟩ := ha
  obtain ⟨sb, cb, rfl, hB⟩ := hb
  obtain ⟨n, hn⟩ : ∃ n, L.length = n := ⟨_, rfl⟩
  have HN : Hid (L.length = n) := hn
  rw [hn] at hl ⊢
  clear hn
  go_enter Try.func10, Try.ntmps10
  go_wp2
  go_loopg [5] n (fun kx s5 wr => ∃ k : Nat, s5 = .int .i64 k ∧ k ≤ n ∧ n - k ≤ kx ∧ Bel w wr)
  case atStart => exact ⟨0, rfl, by omega, by omega, bl_refl _⟩
  case round =>
    obtain ⟨k, rfl, hk, hkx, hW⟩ := hrel
    by_cases hlt : k < n
    · have hltz : (k : Int) < (n : Int) := by omega
      have hwk : IntKind.wrap .i64 ((k : Int) + 1) = (k : Int) + 1 := by rw [IntKind.wrap_i64]; omega
      have hne : L ≠ [] := fun e => by have := HN.out; rw [e] at this; simp at this; omega
      obtain ⟨g, o, hsa, hIa⟩ : ∃ g o, sa = some ⟨g, o, none⟩ ∧ Is w g o L := by
        rcases hA with h | h
        · exact absurd h hne
        · exact h
      obtain ⟨g', o', hsb, hIb⟩ : ∃ g o, sb = some ⟨g, o, none⟩ ∧ Is w g o L := by
        rcases hB with h | h
        · exact absurd h hne
        · exact h
      clear hA hB hne
      subst hsa hsb
      obtain ⟨r, hr⟩ : ∃ r, L[k]? = some r := ⟨_, List.getElem?_eq_getElem (by rw [HN.out]; exact hlt)⟩
      have x0 := (hIa.bel hW) k r hr
      have x1 := (hIb.bel hW) k r hr
      haveI := belBy_some wr
      have y0 := belBy_cell x0
      have y1 := belBy_cell x1
      have rr : ((r : Int) != (r : Int)) = false := by simp
      go_wp2
      refine wp_region_quiet_bel (by kernel_rfl) (by kernel_rfl) ?_
      repeat (go_big_quiet_step (fail))
      refine wpQuiet_nil ?_
      rintro _ ⟨nq, rfl⟩
      go_wp2
      have hb2 := nq.h
      go_roundg (n - (k + 1))
      case measure => omega
      case rel => exact ⟨k + 1, by go_num, by omega, Nat.le_refl _, bl_trans hW hb2⟩
    · have hltz : ¬ (k : Int) < (n : Int) := by omega
      go_wp2
      go_ret
      exact ⟨rfl, hW⟩

def aB1 : Nat → Bo
  | 0 => (0, 0, 4607182418800017408, 4607182418800017408)
  | 1 => (4607182418800017408, 4607182418800017408, 4611686018427387904, 4611686018427387904)
  | 2 => (4613937818241073152, 0, 4616189618054758400, 4607182418800017408)
  | _ => (4602678819172646912, 4602678819172646912, 4615063718147915776, 4603579539098121011)
def aB2 : Nat → Bo
  | 0 => (0, 0, 4607182418800017408, 4607182418800017408)
  | 1 => (0, 0, 4611686018427387904, 4611686018427387904)
  | _ => (0, 0, 4621256167635550208, 4621256167635550208)
theorem new_aB1 (W : World) (t : TypeId) : Bs (W.alloc (.cells #[.float .f64 0, .float .f64 0, .float .f64 4607182418800017408, .float .f64 4607182418800017408, .float .f64 4607182418800017408, .float .f64 4607182418800017408, .float .f64 4611686018427387904, .float .f64 4611686018427387904, .float .f64 4613937818241073152, .float .f64 0, .float .f64 4616189618054758400, .float .f64 4607182418800017408, .float .f64 4602678819172646912, .float .f64 4602678819172646912, .float .f64 4615063718147915776, .float .f64 4603579539098121011] t)) W.heap.size 0 4 aB1 := fun i hi => by
  rcases (show i = 0 ∨ i = 1 ∨ i = 2 ∨ i = 3 by omega) with rfl | rfl | rfl | rfl
  all_goals (refine ⟨?_, ?_, ?_, ?_⟩ <;> (rw [World.cell?_alloc_new]; rfl))
theorem new_aB2 (W : World) (t : TypeId) : Bs (W.alloc (.cells #[.float .f64 0, .float .f64 0, .float .f64 4607182418800017408, .float .f64 4607182418800017408, .float .f64 0, .float .f64 0, .float .f64 4611686018427387904, .float .f64 4611686018427387904, .float .f64 0, .float .f64 0, .float .f64 4621256167635550208, .float .f64 4621256167635550208] t)) W.heap.size 0 3 aB2 := fun i hi => by
  rcases (show i = 0 ∨ i = 1 ∨ i = 2 by omega) with rfl | rfl | rfl
  all_goals (refine ⟨?_, ?_, ?_, ?_⟩ <;> (rw [World.cell?_alloc_new]; rfl))
theorem newP14 (W : World) (t : TypeId) : PRow (W.alloc (.cells #[.int .i64 0, .int .i64 1, .int .i64 0, .int .i64 3, .int .i64 2, .int .i64 3] t)) (.slice (some ⟨W.heap.size, 0, none⟩) 3 3) [(0, 1), (0, 3), (2, 3)] := by
  refine ⟨_, _, rfl, .inr ⟨_, 0, rfl, fun k p hk => ?_⟩⟩
  have hk' : k < 3 := by
    rcases Nat.lt_or_ge k 3 with h | h
    · exact h
    · rw [List.getElem?_eq_none (by simpa using h)] at hk; cases hk
  rcases (show k = 0 ∨ k = 1 ∨ k = 2 by omega) with rfl | rfl | rfl
  all_goals (injection hk with hk; subst hk; constructor <;> (rw [World.cell?_alloc_new]; rfl))
theorem newI14 (W : World) (t : TypeId) : IRow (W.alloc (.cells #[.int .i64 0, .int .i64 1] t)) (.slice (some ⟨W.heap.size, 0, none⟩) 2 2) [0, 1] := by
  refine ⟨_, _, rfl, .inr ⟨_, 0, rfl, fun k p hk => ?_⟩⟩
  have hk' : k < 2 := by
    rcases Nat.lt_or_ge k 2 with h | h
    · exact h
    · rw [List.getElem?_eq_none (by simpa using h)] at hk; cases hk
  rcases (show k = 0 ∨ k = 1 by omega) with rfl | rfl
  all_goals (injection hk with hk; subst hk; rw [World.cell?_alloc_new]; rfl)

theorem aB1_pairs : gpL aB1 4 4607182418800017408 = [(0, 1), (0, 3), (2, 3)] := by decide +kernel
theorem aB1_with : gwL aB1 4 4602678819172646912 (4607182418800017408, 4607182418800017408, 4611686018427387904, 4611686018427387904) = [0, 1] := by decide +kernel
theorem aB1_ck : ckG 4 4607182418800017408 = 0 ∧ ckG 4 4602678819172646912 = 0 := by decide +kernel
theorem al_cell : gcE 4612811918334230528 13821547256400052224 4602678819172646912 = 0 ∧ gcX 4612811918334230528 13821547256400052224 4602678819172646912 = 5 ∧ gcY 4612811918334230528 13821547256400052224 4602678819172646912 = -1 := by decide +kernel
theorem zr2 : zrL aB2 3 = [4611686018427387904, 4616189618054758400, 4625759767262920704] := by decide +kernel
theorem srt2 : srtZ [(4611686018427387904 : Int), 4616189618054758400, 4625759767262920704] = [4611686018427387904, 4616189618054758400, 4625759767262920704] := pw_uniq (srtZ_perm _) (srtZ_pw _) (by decide)
theorem al_width : gwW aB2 3 = 4616189618054758400 := by
  unfold gwW
  rw [if_neg (by decide), zr2]
  unfold midW
  rw [srt2]
  decide +kernel
theorem ok_aB2 : ∀ i, i < 3 → okK .f64 (aB2 i).1 ∧ okK .f64 (aB2 i).2.1 := by
  intro i hi
  rcases (show i = 0 ∨ i = 1 ∨ i = 2 by omega) with rfl | rfl | rfl
  all_goals (constructor <;> (rw [okK64]; decide))
theorem four_s (x y z u : Nat) (w : World) : Calls Try.prog 17 #[.float .f64 x, .float .f64 y, .float .f64 z, .float .f64 u] w fun e w' => e = .returned (.agg #[.float .f64 x, .float .f64 y, .float .f64 z, .float .f64 u]) ∧ Bel w w' := by
  go_enter Try.func17, Try.ntmps17
  go_wp2
  refine bodyPost_ret (v := .agg #[.float .f64 x, .float .f64 y, .float .f64 z, .float .f64 u]) (by simp [results, Try.results17, go_sem] <;> (first | exact ⟨rfl, rfl, rfl, rfl⟩ | rfl)) rfl ⟨rfl, ?_⟩
  repeat (first | exact bl_refl _ | assumption | apply bl_drewN | apply bl_drew | apply bl_alloc | refine bl_set ?_ (by simp <;> omega) | refine bl_trans ?_ (by assumption))
theorem al_pairs14 (g : Nat) (W : World) (h : Bs W g 0 4 aB1) : Calls Try.prog 7 #[.slice (some ⟨g, 0, none⟩) 4 4, .float .f64 4607182418800017408] W fun e w' => ∃ v, e = .returned (.tuple #[v, .int .i64 0]) ∧ PRow w' v [(0, 1), (0, 3), (2, 3)] ∧ Below W.heap.size W w' := by
  refine (pairs14_s _ 4 4 4607182418800017408 aB1 W (.inr ⟨g, 0, rfl, h, World.block_lt_of_cell? _ _ (h 0 (by decide)).1⟩) (by decide)).mono ?_
  rintro e w' ⟨v, rfl, h1, _, h3⟩
  have h2 := own_prow h1
  rw [aB1_pairs] at h2
  rw [aB1_ck.1]
  exact ⟨v, rfl, h2, h3⟩
theorem al_with14 (g : Nat) (W : World) (h : Bs W g 0 4 aB1) : Calls Try.prog 8 #[.slice (some ⟨g, 0, none⟩) 4 4, .agg #[.float .f64 4607182418800017408, .float .f64 4607182418800017408, .float .f64 4611686018427387904, .float .f64 4611686018427387904], .float .f64 4602678819172646912] W fun e w' => ∃ v, e = .returned (.tuple #[v, .int .i64 0]) ∧ IRow w' v [0, 1] ∧ Below W.heap.size W w' := by
  refine (with14_s _ 4 4 4602678819172646912 aB1 (4607182418800017408, 4607182418800017408, 4611686018427387904, 4611686018427387904) W (.inr ⟨g, 0, rfl, h, World.block_lt_of_cell? _ _ (h 0 (by decide)).1⟩)).mono ?_
  rintro e w' ⟨v, rfl, h1, _, h3⟩
  have h2 := own_row h1
  rw [aB1_with] at h2
  rw [aB1_ck.2]
  exact ⟨v, rfl, h2, h3.1⟩
theorem al_cell14 (W : World) : Calls Try.prog 13 #[.agg #[.float .f64 4612811918334230528, .float .f64 13821547256400052224], .float .f64 4602678819172646912] W fun e w' => e = .returned (.tuple #[.int .i64 5, .int .i64 (-1), .int .i64 0]) ∧ Bel W w' := by
  have h := cell14_s 4612811918334230528 13821547256400052224 4602678819172646912 W
  rw [al_cell.1, al_cell.2.1, al_cell.2.2] at h
  exact h
theorem al_width14 (g : Nat) (W : World) (h : Bs W g 0 3 aB2) : Calls Try.prog 16 #[.slice (some ⟨g, 0, none⟩) 3 3] W fun e w' => e = .returned (.tuple #[.float .f64 4616189618054758400, .int .i64 0]) ∧ Below W.heap.size W w' := by
  have q := width14_s _ 3 3 aB2 W (.inr ⟨g, 0, rfl, h, World.block_lt_of_cell? _ _ (h 0 (by decide)).1⟩) ok_aB2
  rw [al_width] at q
  exact q
set_option maxRecDepth 100000 in
set_option maxHeartbeats 16000000 in
theorem alive14_s (w : World) : Calls Try.prog 6 #[] w fun e w' => e = .returned (.bool true) ∧ Below w.heap.size w w' := by
  have c1 := cmp_eq .f64
  have e4 : eqK .f64 4616189618054758400 4616189618054758400 = true := by decide +kernel
  go_enter Try.func6, Try.ntmps6
  go_upto_region 2 with (first | (go_at_call 17; first | (have zn := m3; clear zn; (with_reducible refine (four_s _ _ _ _ _).mono ?_); rintro e w4 ⟨rfl, hb4⟩; have L4 := bl_trans L3 hb4; clear hb4) | (have zn := m2; clear zn; (with_reducible refine (four_s _ _ _ _ _).mono ?_); rintro e w3 ⟨rfl, hb3⟩; have L3 := bl_trans L2 hb3; have m3 := hide True.intro; clear hb3 m2) | (have zn := m1; clear zn; (with_reducible refine (four_s _ _ _ _ _).mono ?_); rintro e w2 ⟨rfl, hb2⟩; have L2 := bl_trans L1 hb2; have m2 := hide True.intro; clear hb2 m1) | ((with_reducible refine (four_s _ _ _ _ _).mono ?_); rintro e w1 ⟨rfl, L1⟩; have m1 := hide True.intro)))
  have hB5 := new_aB1 w4 35
  have L5 := bl_alloc L4 #[.float .f64 0, .float .f64 0, .float .f64 4607182418800017408, .float .f64 4607182418800017408, .float .f64 4607182418800017408, .float .f64 4607182418800017408, .float .f64 4611686018427387904, .float .f64 4611686018427387904, .float .f64 4613937818241073152, .float .f64 0, .float .f64 4616189618054758400, .float .f64 4607182418800017408, .float .f64 4602678819172646912, .float .f64 4602678819172646912, .float .f64 4615063718147915776, .float .f64 4603579539098121011] 35
  obtain ⟨g, hg⟩ : ∃ g, g = w4.heap.size := ⟨_, rfl⟩
  obtain ⟨w5, hw5⟩ : ∃ x, x = w4.alloc (.cells #[.float .f64 0, .float .f64 0, .float .f64 4607182418800017408, .float .f64 4607182418800017408, .float .f64 4607182418800017408, .float .f64 4607182418800017408, .float .f64 4611686018427387904, .float .f64 4611686018427387904, .float .f64 4613937818241073152, .float .f64 0, .float .f64 4616189618054758400, .float .f64 4607182418800017408, .float .f64 4602678819172646912, .float .f64 4602678819172646912, .float .f64 4615063718147915776, .float .f64 4603579539098121011] 35) := ⟨_, rfl⟩
  rw [← hg, ← hw5] at hB5
  rw [← hw5] at L5
  rw [← hg, ← hw5]
  clear hg hw5 L1 L2 L3 L4 m3
  have K5 : Below w.heap.size w w5 := L5.1
  clear L5
  go_upto_region 5 with (first | (go_at_call 7; (with_reducible refine (al_pairs14 g _ hB5).mono ?_); rintro e w6 ⟨vp, rfl, hp, hb6⟩; have K6 := bw_trans K5 hb6; have hB6 := hB5.below hb6) | (go_at_call 17; (with_reducible refine (four_s _ _ _ _ _).mono ?_); rintro e w7 ⟨rfl, hb7⟩; have K7 := bw_trans K6 hb7.1; have hB7 := hB6.bel hb7; replace hp := hp.below hb7.1) | (go_at_call 8; (with_reducible refine (al_with14 g _ hB7).mono ?_); rintro e w8 ⟨vq, rfl, hq, hb8⟩; have K8 := bw_trans K7 hb8; replace hp := hp.below hb8) | (go_at_call 13; (with_reducible refine (al_cell14 _).mono ?_); rintro e w9 ⟨rfl, hb9⟩; have K9 := bw_trans K8 hb9.1; replace hp := hp.below hb9.1; replace hq := hq.below hb9.1))
  clear K5 K6 K7 K8 hB5 hB6 hB7
  go_upto_region 6 with (first | (go_at_call 17; first | (have zn := m2; clear zn; (with_reducible refine (four_s _ _ _ _ _).mono ?_); rintro e w12 ⟨rfl, hb12⟩; have K12 := bw_trans K11 hb12.1; replace hp := hp.below hb12.1; replace hq := hq.below hb12.1; have hB13 := new_aB2 w12 35; have hbX := bl_alloc (bl_refl w12) #[.float .f64 0, .float .f64 0, .float .f64 4607182418800017408, .float .f64 4607182418800017408, .float .f64 0, .float .f64 0, .float .f64 4611686018427387904, .float .f64 4611686018427387904, .float .f64 0, .float .f64 0, .float .f64 4621256167635550208, .float .f64 4621256167635550208] 35; have K13 := bw_trans K12 hbX.1; replace hp := hp.below hbX.1; replace hq := hq.below hbX.1; clear m2) | (have zn := m1; clear zn; (with_reducible refine (four_s _ _ _ _ _).mono ?_); rintro e w11 ⟨rfl, hb11⟩; have K11 := bw_trans K10 hb11.1; replace hp := hp.below hb11.1; replace hq := hq.below hb11.1; have m2 := hide True.intro; clear m1) | ((with_reducible refine (four_s _ _ _ _ _).mono ?_); rintro e w10 ⟨rfl, hb10⟩; have K10 := bw_trans K9 hb10.1; replace hp := hp.below hb10.1; replace hq := hq.below hb10.1; have m1 := hide True.intro)) | (go_at_call 16; (with_reducible refine (al_width14 _ _ hB13).mono ?_); rintro e w14 ⟨rfl, hb14⟩; have K14 := bw_trans K13 hb14; replace hp := hp.below hb14; replace hq := hq.below hb14))
  have HP : ∀ c t, PRow (w14.alloc (.cells c t)) vp [(0, 1), (0, 3), (2, 3)] := fun c t => hp.below (bl_alloc (bl_refl w14) c t).1
  go_wp2_with (first | (go_at_call 15; (with_reducible refine (sameP_s [(0, 1), (0, 3), (2, 3)] _ _ _ (HP _ _) (newP14 _ _) (by decide)).mono ?_); rintro e w15 ⟨rfl, hb15⟩; have B15 := bl_trans (bl_alloc (bl_refl w14) _ _) hb15; have HQ : ∀ c t, IRow (w15.alloc (.cells c t)) vq [0, 1] := (fun c t => (hq.below B15.1).below (bl_alloc (bl_refl w15) c t).1)) | (go_at_call 10; (with_reducible refine (sameI_s [0, 1] _ _ _ (HQ _ _) (newI14 _ _) (by decide)).mono ?_); rintro e w16 ⟨rfl, hb16⟩; have B16 := bl_trans (bl_alloc B15 _ _) hb16))
  go_ret
  exact ⟨by first | rfl | simp, bw_trans K14 B16.1⟩

end Go.Proofs.Ytekhnolpgoejdab
