/-
  What each function of package poly answers, and what the reference of its chapter answers: one contract a function, for every float: the answer stands in the relation of its formula to what was given; of the memory that was there nothing has turned.
-/
import Derived.Test.YtmgoancijepeoaaVec
import Derived.Test.YtmgoancijepeoaaDf
import Derived.Test.YtmgoancijepeoaaDd
import Derived.Below
import Derived.OwnWalk
import Derived.Laws.AppendOwn
import Derived.Laws.StructEq
import Derived.LoopN
import Derived.WalkKit
import Derived.WalkLawsBesides
import Derived.WalkSpells
import Derived.ProofKit
import Derived.OpenShut
import Derived.Deep.RegionHeld3
namespace Go.Proofs.Ytmgoancijepeoaa
open Go.ChangeShapes Go.WideShapes Go.ChangeAt Go.RowKit
set_option linter.unusedVariables false
set_option linter.unusedSimpArgs false


set_option maxRecDepth 100000 in
set_option maxHeartbeats 1000000 in
theorem sp_eq (a c1 b c2 n : Nat) (P : Nat → Pn) (w : World) (sA : Sp w a 0 n P) (sB : Sp w b 0 n P) (hn : n ≤ 1000) (h1 : n ≤ c1) (h2 : n ≤ c2) : Calls Try.prog 24 #[.slice (some ⟨a, 0, none⟩) n c1, .slice (some ⟨b, 0, none⟩) n c2] w fun e w' => e = .returned (.bool true) ∧ Bel w w' := by
  go_enter Try.func24, Try.ntmps24
  go_wp2
  go_loopw [5] (fun i' wr => ∃ k : Nat, k ≤ n ∧ i' = .int .i64 k ∧ Bel w wr) (fun i' _ => n - (intOf i').toNat)
  case atStart => exact ⟨0, by omega, rfl, bl_refl _⟩
  case round =>
    obtain ⟨k, hk, rfl, hB⟩ := hrel
    by_cases hlt : k < n
    · have k1 : (k : Int) < (n : Int) := by omega
      have wi : IntKind.wrap .i64 ((k : Int) + 1) = (k : Int) + 1 := by rw [IntKind.wrap_i64]; omega
      obtain ⟨x0, x1, x2⟩ := (sA.bel hB) k hlt
      obtain ⟨y0, y1, y2⟩ := (sB.bel hB) k hlt
      have la := World.block_lt_of_cell? _ _ x0
      have lb := World.block_lt_of_cell? _ _ y0
      simp only [Nat.zero_add] at x0 x1 x2 y0 y1 y2
      simp only at la lb
      haveI := belBy_some wr
      have u0 := belBy_cell x0
      have u1 := belBy_cell x1
      have u2 := belBy_cell x2
      have v0 := belBy_cell y0
      have v1 := belBy_cell y1
      have v2 := belBy_cell y2
      go_wp2
      refine wp_region_quiet_bel (by kernel_rfl) (by kernel_rfl) ?_
      repeat (go_big_quiet_step (first | (go_at_call 50; exact calls_bel (rSame_eq _ _ _)) | (go_at_call 18; exact calls_bel (ris9 _ _ _ (smK_self _ _)))))
      refine wpQuiet_nil ?_
      rintro _ ⟨nq, rfl⟩
      go_wp2
      exact ⟨⟨k + 1, by omega, by go_num, bl_trans hB nq.h⟩, by simp [intOf]; omega⟩
    · have hkn : k = n := by omega
      subst hkn
      go_wp2
      go_ret
      exact ⟨rfl, hB⟩
theorem sp_nil (w : World) : Calls Try.prog 24 #[.slice none 0 0, .slice none 0 0] w fun e w' => e = .returned (.bool true) ∧ Bel w w' := by
  go_enter Try.func24, Try.ntmps24
  go_wp2
  refine wp_loop_rounds 1 ?_
  rw [rounds_succ]
  go_wp2
  go_ret
  exact ⟨rfl, bl_refl _⟩
theorem mk9_laid (W : World) : Sl (W.alloc (.cells #[.float .f64 4635118810238550016, .float .f64 0] 24)) W.heap.size 0 1 (px [(4635118810238550016, 0)]) (py [(4635118810238550016, 0)]) := by
  intro i hi
  rcases (show i = 0 by omega) with rfl
  all_goals constructor <;> (rw [World.cell?_alloc_new]; rfl)
/-- points that were lent: in memory of their own, with a mark behind -/
def Lent9 (w : World) (g c n : Nat) (xs ys : Nat → Nat) : Prop := n + 1 ≤ c ∧ c ≤ maxLen ∧ Sl w g 0 n xs ys ∧ w.cell? ⟨g, n * 2, none⟩ = some (.float .f64 4635118810238550016)
theorem Lent9.bel {w w' : World} {g c n : Nat} {xs ys : Nat → Nat} (h : Lent9 w g c n xs ys) (b : Bel w w') : Lent9 w' g c n xs ys := ⟨h.1, h.2.1, h.2.2.1.bel b, keep b h.2.2.2⟩
theorem lent9_is {w w0 : World} {g c n : Nat} {V : Value} {xs ys : Nat → Nat} (h : Lent9 w g c n xs ys) (hV : AnyS w0 V n xs ys) : AnyS w (.slice (some ⟨g, 0, none⟩) n c) n xs ys := by
  obtain ⟨a, cap, _, h2, h3, h4, h5, _⟩ := hV
  refine ⟨_, _, rfl, by have := h.1; omega, h3, h4, h5, ?_⟩
  rcases Nat.eq_zero_or_pos n with h0 | h0
  · exact .inl h0
  · exact .inr ⟨h0, g, 0, rfl, h.2.2.1⟩
theorem lent9_fin {w w1 : World} {v : Value} {n : Nat} {xs ys : Nat → Nat} (h : Own w.heap.size w1 v (lst xs ys n ++ [(4635118810238550016, 0)])) : ∃ g c, v = .slice (some ⟨g, 0, none⟩) (n + 1) c ∧ w.heap.size ≤ g ∧ Lent9 w1 g c n xs ys := by
  obtain ⟨g, c, e, h1, h2, h3, h4, _⟩ := h.get (by simp)
  have hl : (lst xs ys n ++ [(4635118810238550016, 0)]).length = n + 1 := by rw [List.length_append, lst_len]; rfl
  rw [hl] at e h2 h4
  refine ⟨g, c, e, h1, h2, h3, fun i hi => ?_, ?_⟩
  · have := h4 i (by omega)
    rwa [px_app1 _ _ _ (by rw [lst_len]; exact hi), py_app1 _ _ _ (by rw [lst_len]; exact hi), lst_x _ _ _ i hi, lst_y _ _ _ i hi] at this
  · have := (h4 n (by omega)).1
    have e1 := px_app2 (lst xs ys n) [(4635118810238550016, 0)] 0
    rw [lst_len, Nat.add_zero] at e1
    rw [e1, Nat.zero_add] at this
    exact this

set_option maxRecDepth 100000 in
set_option maxHeartbeats 1000000 in
theorem lent9_any (V : Value) (n : Nat) (xs ys : Nat → Nat) (w : World) (h : AnyS w V n xs ys) : Calls Try.prog 19 #[V] w fun e w' => ∃ g c, e = .returned (.slice (some ⟨g, 0, none⟩) n c) ∧ w.heap.size ≤ g ∧ Lent9 w' g c n xs ys ∧ Bel w w' := by
  obtain ⟨a, cap, rfl, h2, h3, h4, h5, h6⟩ := h
  have own0 := Own.nil w.heap.size w
  have fin : ∀ {v1 : Value} {w1 w2 : World}, Bel w w1 → True := fun _ => trivial
  rcases h6 with rfl | ⟨h0, b, off, rfl, hs⟩
  · go_enter Try.func19, Try.ntmps19
    go_wp2_with (first | (have zn := m1; clear zn; at_builtin; refine wpList_app (L := []) (M := [(4635118810238550016, 0)]) rfl _ _ rfl rfl _ 0 1 rfl (own0.bel (bl_alloc (bl_refl w) _ _)) (mk9_laid w) (by decide) (by simp) (by decide) ?_; intro v1 w1 hO hb; have B := hb w (bl_alloc (bl_refl w) _ _) (Nat.le_refl _); obtain ⟨g, c, rfl, hg, hL⟩ := lent9_fin (xs := xs) (ys := ys) (n := 0) hO; have hc := hL.1; have hcm := hL.2.1) | (at_builtin; refine wpList_run rfl _ _ rfl rfl rfl (fun ty => run_app0 w ty cap a) ?_; have m1 := hide True.intro) | go_in)
    go_ret
    exact ⟨g, c, rfl, hg, hL, B⟩
  · have sL : Sl w b off (lst xs ys n).length (px (lst xs ys n)) (py (lst xs ys n)) := by rw [lst_len]; exact hs.eq (fun i hi => (lst_x _ _ _ i hi).symm) (fun i hi => (lst_y _ _ _ i hi).symm)
    have hll := lst_len xs ys n
    have n1 : (n : Int) ≤ (n : Int) + 1 := by omega
    go_enter Try.func19, Try.ntmps19
    go_wp2_with (first | (have zn := m1; clear zn; at_builtin; refine wpList_app (L := lst xs ys n) (M := [(4635118810238550016, 0)]) rfl _ _ rfl rfl _ 0 1 rfl (hO.bel (bl_alloc (bl_refl w1) _ _)) (mk9_laid w1) (by decide) (Nat.le_trans B1.size (by simp)) (by rw [lst_len]; simp; omega) ?_; intro v2 w2 hO2 hb2; have B := hb2 w (bl_alloc B1 _ _) (Nat.le_refl _); obtain ⟨g, c, rfl, hg, hL⟩ := lent9_fin hO2; have hc := hL.1; have hcm := hL.2.1; have c1 : (n : Int) ≤ (c : Int) := (by omega)) | (at_builtin; refine wpList_app (L := []) (M := lst xs ys n) rfl _ _ rfl rfl b off cap (by rw [lst_len]; rfl) own0 sL (by rw [lst_len]; exact h0) (Nat.le_refl _) (by rw [lst_len]; simp; omega) ?_; intro v1 w1 hO hb; have B1 := hb w (bl_refl w) (Nat.le_refl _); rw [List.nil_append] at hO; have m1 := hide True.intro) | go_in)
    go_ret
    exact ⟨g, c, rfl, hg, hL, B⟩

set_option maxRecDepth 100000 in
set_option maxHeartbeats 1000000 in
theorem kept9_any (g c n : Nat) (V : Value) (xs ys : Nat → Nat) (w : World) (hL : Lent9 w g c n xs ys) (h : AnyS w V n xs ys) : Calls Try.prog 25 #[.slice (some ⟨g, 0, none⟩) n c, V] w fun e w' => e = .returned (.bool true) ∧ Bel w w' := by
  obtain ⟨a, cap, rfl, h2, h3, h4, h5, h6⟩ := h
  obtain ⟨l1, l2, l3, l4⟩ := hL
  have q0 := cmp_eq .f64
  have e77 : eqK .f64 4635118810238550016 4635118810238550016 = true := by decide +kernel
  have c1 : (n : Int) + 1 ≤ (c : Int) := by omega
  have w1 : IntKind.wrap .i64 ((n : Int) + 1) = (n : Int) + 1 := by rw [IntKind.wrap_i64]; omega
  have i3 : (0 : Int) ≤ (n : Int) + 1 := by omega
  have i4 : ((n : Int) + 1).toNat = n + 1 := by omega
  have i5 : (n : Int) < (n : Int) + 1 := by omega
  rcases h6 with rfl | ⟨h0, b, off, rfl, hs⟩
  · simp only [Nat.zero_mul, Nat.zero_add, Nat.one_mul] at l4
    go_enter Try.func25, Try.ntmps25
    go_wp2_with (first | (go_at_call 14; refine (same_nil _ _ _ _ _).mono ?_; rintro e w' ⟨rfl, hb⟩; replace l4 := keep hb l4; have B := hb))
    go_ret
    exact ⟨rfl, B⟩
  · go_enter Try.func25, Try.ntmps25
    go_wp2_with (first | (go_at_call 14; refine (same_eq g 0 c b off cap n xs ys _ l3 hs h3 (by omega) h2).mono ?_; rintro e w' ⟨rfl, hb⟩; replace l4 := keep hb l4; have B := hb))
    go_ret
    exact ⟨rfl, B⟩
def btE (us vs : Nat → Nat) (n : Nat) (xs ys : Nat → Nat) (m : Nat) : Int := if chkE us vs n = 0 then chkE xs ys m else chkE us vs n
def btL (us vs : Nat → Nat) (n : Nat) (xs ys : Nat → Nat) (m : Nat) : List Pt := if btE us vs n xs ys m = 0 then bothL xs ys m (lst us vs n) m else []
theorem bt_first (us vs : Nat → Nat) (n : Nat) (xs ys : Nat → Nat) (m : Nat) : (if chkE us vs n = 0 then chkE xs ys m else chkE us vs n) = btE us vs n xs ys m := rfl
theorem both_last {xs ys : Nat → Nat} {n : Nat} {L : List Pt} (hL : L.length ≤ 64) (hk : n ≤ 64) : (bothL xs ys n L n).length ≤ 12000000000000 := by
  cases n with
  | zero => show L.length ≤ _; omega
  | succ n =>
    have h1 := both_cap (xs := xs) (ys := ys) (n := n + 1) (L := L) hL (show n ≤ 63 by omega)
    have h2 : 2 * (bothL xs ys (n + 1) L (n + 1)).length ≤ 3 * (bothL xs ys (n + 1) L n).length := leftL_len3 _ _
    omega
set_option maxHeartbeats 1000000 in
theorem rleft_zero (nx ny fd : Nat) (v : Option Addr) (cap : Nat) (w : World) : Calls Try.prog 57 #[.agg #[.float .f64 nx, .float .f64 ny, .float .f64 fd], .slice v 0 cap] w fun e w' => e = .returned (.slice none 0 0) ∧ Bel w w' := by
  have B0 : Bel w (w.alloc (.cells #[.float .f64 nx, .float .f64 ny, .float .f64 fd] 26)) := bl_alloc (bl_refl w) _ _
  go_enter Try.func57, Try.ntmps57
  go_wp2
  refine wp_loop_rounds 1 ?_
  rw [rounds_succ]
  go_wp2
  refine wp_loop_rounds 1 ?_
  rw [rounds_succ]
  haveI := belBy_some (w.alloc (.cells #[.float .f64 nx, .float .f64 ny, .float .f64 fd] 26))
  go_wp2
  refine wp_region_quiet_bel (by kernel_rfl) (by kernel_rfl) ?_
  repeat (go_big_quiet_step (fail))
  refine wpQuiet_nil ?_
  rintro _ ⟨nq, rfl⟩
  go_wp2
  go_ret
  exact ⟨rfl, bl_trans B0 nq.h⟩
set_option maxHeartbeats 1000000 in
theorem both_any (V U : Value) (n m : Nat) (us vs xs ys : Nat → Nat) (w : World) (h : AnyS w V n us vs) (k : AnyS w U m xs ys) : Calls Try.prog 26 #[V, U] w fun e w' => ∃ v, e = .returned (.tuple #[v, .int .i64 (btE us vs n xs ys m)]) ∧ NewS w.heap.size w' v (btL us vs n xs ys m) ∧ Bel w w' := by
  by_cases h1 : chkE us vs n = 0
  · have e1 : btE us vs n xs ys m = chkE xs ys m := by unfold btE; rw [if_pos h1]
    by_cases h2 : chkE xs ys m = 0
    · have e2 : btL us vs n xs ys m = bothL xs ys m (lst us vs n) m := by unfold btL; rw [e1, if_pos h2]
      rw [e2, e1, h2]
      obtain ⟨p1, ca, rfl, a2, a3, a4, a5, a6⟩ := h
      obtain ⟨p2, cb, rfl, b2, b3, b4, b5, b6⟩ := k
      obtain ⟨_, k3, _, _⟩ := chk_ok a5 h1
      obtain ⟨_, k4, _, _⟩ := chk_ok b5 h2
      rcases a6 with h0 | ⟨a0, a, ao, rfl, sa⟩
      · omega
      rcases b6 with h0 | ⟨b0, b, bo, rfl, sb⟩
      · omega
      exact both_ok a ao n ca b bo m cb us vs xs ys w sa a5 a0 a3 a2 h1 sb b5 b0 b3 b2 h2
    · have e2 : btL us vs n xs ys m = [] := by unfold btL; rw [e1, if_neg h2]
      have h2' : ¬ (chkE xs ys m == 0) = true := by simpa using h2
      rw [e2, e1]
      obtain ⟨a, ca, rfl, _⟩ := id h
      obtain ⟨b, cb, rfl, _⟩ := id k
      go_enter Try.func26, Try.ntmps26
      go_wp2_with (first | (go_at_call 31; refine (chk_all _ n us vs w h).mono ?_; rintro e w_1 ⟨rfl, B1⟩; rw [h1]) | (go_at_call 22; refine (sides_bad _ m xs ys w_1 (k.bel B1) h2).mono ?_; rintro e w_2 ⟨rfl, hb⟩))
      refine bodyPost_ret (v := .tuple #[.slice none 0 0, .int .i64 (chkE xs ys m)]) (by simp [results, Try.results26, go_sem] <;> (first | exact ⟨⟨rfl, rfl⟩, rfl⟩ | exact ⟨rfl, rfl, rfl, rfl⟩ | exact ⟨rfl, rfl, rfl⟩ | exact ⟨rfl, rfl⟩ | rfl)) rfl ⟨_, rfl, .inl ⟨rfl, rfl⟩, bl_trans B1 hb⟩
  · have e1 : btE us vs n xs ys m = chkE us vs n := by unfold btE; rw [if_neg h1]
    have e2 : btL us vs n xs ys m = [] := by unfold btL; rw [e1, if_neg h1]
    have h1' : ¬ (chkE us vs n == 0) = true := by simpa using h1
    rw [e2, e1]
    obtain ⟨a, ca, rfl, _⟩ := id h
    obtain ⟨b, cb, rfl, _⟩ := id k
    go_enter Try.func26, Try.ntmps26
    go_wp2_with (first | (go_at_call 31; refine (chk_all _ n us vs w h).mono ?_; rintro e w_1 ⟨rfl, B1⟩))
    refine bodyPost_ret (v := .tuple #[.slice none 0 0, .int .i64 (chkE us vs n)]) (by simp [results, Try.results26, go_sem] <;> (first | exact ⟨⟨rfl, rfl⟩, rfl⟩ | exact ⟨rfl, rfl, rfl, rfl⟩ | exact ⟨rfl, rfl, rfl⟩ | exact ⟨rfl, rfl⟩ | rfl)) rfl ⟨_, rfl, .inl ⟨rfl, rfl⟩, B1⟩
set_option maxRecDepth 100000 in
set_option maxHeartbeats 2000000 in
theorem rboth_any (V U : Value) (n m : Nat) (us vs xs ys : Nat → Nat) (w : World) (h : AnyS w V n us vs) (k : AnyS w U m xs ys) : Calls Try.prog 27 #[V, U] w fun e w' => ∃ v, e = .returned (.tuple #[v, .int .i64 (btE us vs n xs ys m)]) ∧ RowS w.heap.size w' v (btL us vs n xs ys m) ∧ Bel w w' := by
  by_cases h0 : btE us vs n xs ys m = 0
  · obtain ⟨h1, h2⟩ : chkE us vs n = 0 ∧ chkE xs ys m = 0 := by
      unfold btE at h0
      split at h0
      · rename_i hp; exact ⟨hp, h0⟩
      · rename_i hp; exact absurd h0 hp
    have e2 : btL us vs n xs ys m = bothL xs ys m (lst us vs n) m := by unfold btL; rw [if_pos h0]
    rw [e2, h0]
    obtain ⟨p1, ca, rfl, a2, a3, a4, a5, a6⟩ := id h
    obtain ⟨p2, cb, rfl, b2, b3, b4, b5, b6⟩ := id k
    obtain ⟨ga, k3, h64a, _⟩ := chk_ok a5 h1
    obtain ⟨gb, k4, h64b, hout⟩ := chk_ok b5 h2
    have hbd := both_bd gb hout (lst_bd ga) h64b
    rcases a6 with h9 | ⟨a0, a, ao, rfl, sa⟩
    · omega
    rcases b6 with h9 | ⟨b0, b, bo, rfl, sb⟩
    · omega
    have hz2 : chkE xs ys m + 1 = 1 := by omega
    clear h1 h2
    go_enter Try.func27, Try.ntmps27
    go_wp2_with (first | (have zz := B1; clear zz; go_at_call 56; refine (rchk_any _ m xs ys w_1 (k.bel B1)).mono ?_; rintro e w_2 ⟨rfl, hb⟩; have B2 := bl_trans B1 hb; clear hb; have B3 : Bel w (w_2.alloc (.cells #[.int .i64 (chkE us vs n), .int .i64 (chkE xs ys m)] 28)) := bl_alloc B2 _ _; have F2 := first2 w_2.heap.size (chkE us vs n) (chkE xs ys m) (w_2.alloc (.cells #[.int .i64 (chkE us vs n), .int .i64 (chkE xs ys m)] 28)) (by rw [World.cell?_alloc_new]; rfl) (by rw [World.cell?_alloc_new]; rfl)) | (go_at_call 56; refine (rchk_any _ n us vs w h).mono ?_; rintro e w_1 ⟨rfl, B1⟩) | (go_at_call 43; refine F2.mono ?_; rintro e w_3 ⟨rfl, hw3⟩; rw [hw3]; rw [bt_first, h0]) | (go_at_call 23; refine (rsides_ok b bo m cb xs ys _ (sb.bel B3) b5 b0 b3 b2 b4 (by omega)).mono ?_; rintro e w_4 ⟨r, cr, rfl, hcr, hr, hP, hb⟩; have B4 := bl_trans B3 hb; clear hb))
    go_loopw [10, 9] (fun i' v' wr => ∃ kx : Nat, kx ≤ m ∧ i' = .int .i64 kx ∧ Bel w_4 wr ∧ RowS 0 wr v' (bothL xs ys m (lst us vs n) kx) ∧ (0 < kx → RowS w.heap.size wr v' (bothL xs ys m (lst us vs n) kx))) (fun i' _ _ => m - (intOf i').toNat)
    case atStart => exact ⟨0, by omega, by first | rfl | (go_num), bl_refl _, ⟨_, ca, by show _ = Value.slice _ (lst us vs n).length _; rw [lst_len], by show (lst us vs n).length ≤ ca; rw [lst_len]; exact a2, .inr ⟨a, ao, rfl, Nat.zero_le _, by show Sl _ _ _ (lst us vs n).length (px (lst us vs n)) (py (lst us vs n)); rw [lst_len]; exact sl_lst (sa.bel B4)⟩⟩, fun hh => absurd hh (by decide)⟩
    case round =>
      obtain ⟨kx, hk, rfl, hB, ⟨q, c, rfl, hqc, hq⟩, hR2⟩ := hrel
      by_cases hlt : kx < m
      · have k1 : (kx : Int) < (m : Int) := by omega
        have wi : IntKind.wrap .i64 ((kx : Int) + 1) = (kx : Int) + 1 := by rw [IntKind.wrap_i64]; omega
        have hpB := sd_bd gb hlt (hout kx hlt)
        obtain ⟨p0, p1, p2⟩ := (hP.bel hB) kx hlt
        have lr := World.block_lt_of_cell? _ _ p0
        simp only [Nat.zero_add] at p0 p1 p2
        simp only at lr
        have hcap := both_cap (xs := xs) (ys := ys) (n := m) (L := lst us vs n) (by rw [lst_len]; exact h64a) (show kx ≤ 63 by omega)
        have hbk := hbd kx hk
        have zr := (bl_trans B4 hB).size
        have LD : Calls Try.prog 57 #[.agg #[.float .f64 (sdP xs ys m kx).1, .float .f64 (sdP xs ys m kx).2.1, .float .f64 (sdP xs ys m kx).2.2], .slice q (bothL xs ys m (lst us vs n) kx).length c] wr fun e w' => ∃ v, e = .returned v ∧ RowS wr.heap.size w' v (bothL xs ys m (lst us vs n) (kx + 1)) ∧ Bel wr w' := by
          show Calls Try.prog _ _ wr fun e w' => ∃ v, e = .returned v ∧ RowS wr.heap.size w' v (leftL (sdP xs ys m kx) (bothL xs ys m (lst us vs n) kx)) ∧ Bel wr w'
          clear hR2
          generalize bothL xs ys m (lst us vs n) kx = M at *
          rcases Nat.eq_zero_or_pos M.length with hz | hz
          · have hM : M = [] := List.length_eq_zero_iff.1 hz
            subst hM
            rw [leftL_nil]
            exact (rleft_zero _ _ _ q c wr).mono fun e w' ⟨he, hb⟩ => ⟨_, he, ⟨none, 0, rfl, Nat.le_refl _, .inl rfl⟩, hb⟩
          · rcases hq with hq | ⟨g, o, rfl, _, hS⟩
            · omega
            · exact rleft_d g o M.length c M (40 + 8 * kx) (sdP xs ys m kx).1 (sdP xs ys m kx).2.1 (sdP xs ys m kx).2.2 wr rfl hS hz hcap hqc hpB hbk (by omega)
        generalize hM1 : bothL xs ys m (lst us vs n) (kx + 1) = M1 at *
        obtain ⟨ql, hql⟩ : ∃ ql, (bothL xs ys m (lst us vs n) kx).length = ql := ⟨_, rfl⟩
        rw [hql] at LD ⊢
        go_wp2_with (first | (go_at_call 57; refine LD.mono ?_; rintro e w_5 ⟨v, rfl, hN, hb⟩))
        go_roundw
        case rel => exact ⟨kx + 1, by omega, by go_num, bl_trans hB hb, by rw [hM1]; exact hN.low (Nat.zero_le _), fun _ => by rw [hM1]; exact hN.low zr⟩
        case measure => simp [intOf]; omega
      · have hkm : m = kx := by omega
        subst hkm
        go_wp2
        refine bodyPost_ret (v := .tuple #[.slice q (bothL xs ys m (lst us vs n) m).length c, .int .i64 0]) (by simp [results, Try.results27, go_sem] <;> (first | exact ⟨⟨rfl, rfl⟩, rfl⟩ | exact ⟨rfl, rfl, rfl, rfl⟩ | exact ⟨rfl, rfl, rfl⟩ | exact ⟨rfl, rfl⟩ | rfl)) rfl ⟨_, rfl, hR2 (by omega), bl_trans B4 hB⟩
  · have e2 : btL us vs n xs ys m = [] := by unfold btL; rw [if_neg h0]
    have h0' : ¬ (btE us vs n xs ys m == 0) = true := by simpa using h0
    rw [e2]
    obtain ⟨a, ca, rfl, _⟩ := id h
    obtain ⟨b, cb, rfl, _⟩ := id k
    go_enter Try.func27, Try.ntmps27
    go_wp2_with (first | (have zz := B1; clear zz; go_at_call 56; refine (rchk_any _ m xs ys w_1 (k.bel B1)).mono ?_; rintro e w_2 ⟨rfl, hb⟩; have B2 := bl_trans B1 hb; clear hb; have B3 : Bel w (w_2.alloc (.cells #[.int .i64 (chkE us vs n), .int .i64 (chkE xs ys m)] 28)) := bl_alloc B2 _ _; have F2 := first2 w_2.heap.size (chkE us vs n) (chkE xs ys m) (w_2.alloc (.cells #[.int .i64 (chkE us vs n), .int .i64 (chkE xs ys m)] 28)) (by rw [World.cell?_alloc_new]; rfl) (by rw [World.cell?_alloc_new]; rfl)) | (go_at_call 56; refine (rchk_any _ n us vs w h).mono ?_; rintro e w_1 ⟨rfl, B1⟩) | (go_at_call 43; refine F2.mono ?_; rintro e w_3 ⟨rfl, hw3⟩; rw [hw3]; rw [bt_first]))
    refine bodyPost_ret (v := .tuple #[.slice none 0 0, .int .i64 (btE us vs n xs ys m)]) (by simp [results, Try.results27, go_sem] <;> (first | exact ⟨⟨rfl, rfl⟩, rfl⟩ | exact ⟨rfl, rfl, rfl, rfl⟩ | exact ⟨rfl, rfl, rfl⟩ | exact ⟨rfl, rfl⟩ | rfl)) rfl ⟨_, rfl, ⟨none, 0, rfl, Nat.le_refl _, .inl rfl⟩, B3⟩

end Go.Proofs.Ytmgoancijepeoaa
