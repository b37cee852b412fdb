/-
  What each function of package poly answers, and what the reference of its chapter answers: one contract a function, for every float: the answer stands in the relation of its formula to what was given; of the memory that was there nothing has turned.
-/
import Derived.Test.YtpedpgpgcmhnoaaVec
import Derived.Test.YtpedpgpgcmhnoaaCi
import Derived.Test.YtpedpgpgcmhnoaaRx
import Derived.Below
import Derived.WalkKit
import Derived.WalkLawsBesides
import Derived.WalkSpells
import Derived.ProofKit
import Derived.OpenShut
import Derived.Deep.RegionHeld3
namespace Go.Proofs.Ytpedpgpgcmhnoaa
open Go.ChangeShapes Go.WideShapes Go.ChangeAt Go.RowKit
set_option linter.unusedVariables false
set_option linter.unusedSimpArgs false


/-- what is left: nothing, or a new list -/
def NewS (base : Nat) (w : World) (v : Value) (M : List Pt) : Prop := (M = [] ∧ v = .slice none 0 0) ∨ (0 < M.length ∧ Fresh base w v M)
theorem NewS.bel {base : Nat} {w w' : World} {v : Value} {L : List Pt} (h : NewS base w v L) (g : Bel w w') : NewS base w' v L := by
  rcases h with h | ⟨h1, h2⟩
  · exact .inl h
  · exact .inr ⟨h1, h2.bel g⟩
theorem NewS.some {base : Nat} {w : World} {v : Value} {L : List Pt} (h : NewS base w v L) (h0 : 0 < L.length) : Fresh base w v L := by
  rcases h with ⟨h, _⟩ | ⟨_, h⟩
  · rw [h] at h0; exact absurd h0 (by decide)
  · exact h
theorem Fresh.low {a b : Nat} {w : World} {v : Value} {L : List Pt} (h : Fresh b w v L) (hab : a ≤ b) : Fresh a w v L := by
  obtain ⟨q, e, h1, h2, h3⟩ := h
  exact ⟨q, e, Nat.le_trans hab h1, h2, h3⟩
theorem NewS.low {a b : Nat} {w : World} {v : Value} {L : List Pt} (h : NewS b w v L) (hab : a ≤ b) : NewS a w v L := by
  rcases h with h | ⟨h1, h2⟩
  · exact .inl h
  · exact .inr ⟨h1, h2.low hab⟩
set_option maxRecDepth 100000 in
set_option maxHeartbeats 1000000 in
theorem leftOf_d (b off n cap : Nat) (L : List Pt) (k nx ny fd : Nat) (w : World) (hl : L.length = n) (hs : Sl w b off n (px L) (py L)) (hn0 : 0 < n) (hn : n ≤ 8000000000000) (hcap : n ≤ cap) (hp : PnB (nx, ny, fd)) (hL : PsB k L) (hk : k ≤ 600) :
    Calls Try.prog 52 #[.agg #[.float .f64 nx, .float .f64 ny, .float .f64 fd], .slice (some ⟨b, off, none⟩) n cap] w fun e w' => ∃ v, e = .returned v ∧ NewS w.heap.size w' v (leftL (nx, ny, fd) L) ∧ Bel w w' := by
  have hrl := rowN_len (nx, ny, fd) L n
  have PD := pieces_d b off n cap L k nx ny fd _ hl (hs.bel (bl_alloc (bl_refl w) #[.float .f64 nx, .float .f64 ny, .float .f64 fd] 26)) hn0 hn hcap hp hL hk
  have eLL : leftL (nx, ny, fd) L = if (lastL (dd (rowN (nx, ny, fd) L n) (rowN (nx, ny, fd) L n).length)).length < 3 then [] else lastL (dd (rowN (nx, ny, fd) L n) (rowN (nx, ny, fd) L n).length) := by unfold leftL outL; rw [hl]
  rw [eLL]
  clear eLL
  generalize rowN (nx, ny, fd) L n = R at *
  obtain ⟨m, hm⟩ : ∃ m, R.length = m := ⟨_, rfl⟩
  rw [hm] at PD hrl ⊢
  by_cases h0 : m = 0
  · have hRn : R = [] := by cases R with | nil => rfl | cons a t => simp at hm; omega
    subst h0 hRn
    rw [if_pos (by decide)]
    go_enter Try.func52, Try.ntmps52
    go_wp2_with (first | (go_at_call 81; refine PD.mono ?_; rintro e w_1 ⟨g, rfl, hg, hS, hb⟩) | (go_at_call 80; refine (apart_zero _ _ _).mono ?_; rintro e w_2 ⟨rfl, hb2⟩))
    go_ret
    exact ⟨_, rfl, .inl ⟨rfl, rfl⟩, bl_trans (bl_alloc (bl_refl w) _ _) (bl_trans hb hb2)⟩
  · obtain ⟨D, hD⟩ : ∃ D, lastL (dd R m) = D := ⟨_, rfl⟩
    obtain ⟨d, hd⟩ : ∃ d, D.length = d := ⟨_, rfl⟩
    have hd2 : d ≤ m := by rw [← hd, ← hD]; exact Nat.le_trans (lastL_len _) (dd_len _ _)
    rw [hD, hd]
    by_cases h3 : d < 3
    · have h3I : (d : Int) < 3 := by omega
      rw [if_pos h3]
      go_enter Try.func52, Try.ntmps52
      go_wp2_with (first | (go_at_call 81; refine PD.mono ?_; rintro e w_1 ⟨g, rfl, hg, hS, hb⟩; have AD := capart_d g 0 m (2 * n) R w_1 hm hS (by omega) (by omega) (by omega) _ hg hb; rw [hD, hd] at AD) | (go_at_call 80; refine AD.mono ?_; rintro e w_2 ⟨rfl, hM, hS2⟩))
      go_ret
      exact ⟨_, rfl, .inl ⟨rfl, rfl⟩, bl_trans (bl_alloc (bl_refl w) _ _) (hM.bel _ hb hg)⟩
    · have h3I : ¬ (d : Int) < 3 := by omega
      rw [if_neg h3]
      go_enter Try.func52, Try.ntmps52
      go_wp2_with (first | (go_at_call 81; refine PD.mono ?_; rintro e w_1 ⟨g, rfl, hg, hS, hb⟩; have AD := capart_d g 0 m (2 * n) R w_1 hm hS (by omega) (by omega) (by omega) _ hg hb; rw [hD, hd] at AD) | (go_at_call 80; refine AD.mono ?_; rintro e w_2 ⟨rfl, hM, hS2⟩; have B2 := hM.bel _ hb hg; have LD := listed_d g 0 (2 * n) D w_2 (by rw [hd]; exact hS2) (by omega) (by omega); rw [hd] at LD) | (go_at_call 51; refine LD.mono ?_; rintro e w_3 ⟨v, rfl, hF, hb3⟩))
      go_ret
      have B3 := bl_trans (bl_alloc (bl_refl w) #[.float .f64 nx, .float .f64 ny, .float .f64 fd] 26) B2
      exact ⟨_, rfl, .inr ⟨by omega, hF.low B3.size⟩, bl_trans B3 hb3⟩
def pgE (p : Pn) (xs ys : Nat → Nat) (n : Nat) : Int := if pnB p = true then chkE xs ys n else 90
def pgL (p : Pn) (xs ys : Nat → Nat) (n : Nat) : List Pt := if pgE p xs ys n = 0 then leftL p (lst xs ys n) else []
theorem lst_bd {xs ys : Nat → Nat} {n : Nat} (g : Gd xs ys n) : PsB 40 (lst xs ys n) := fun q hq => by
  unfold lst at hq
  rw [List.mem_map] at hq
  obtain ⟨i, hi, rfl⟩ := hq
  exact g i (List.mem_range.1 hi)
theorem sl_lst {w : World} {b off n : Nat} {xs ys : Nat → Nat} (h : Sl w b off n xs ys) : Sl w b off n (px (lst xs ys n)) (py (lst xs ys n)) := h.eq (fun i hi => (lst_x xs ys n i hi).symm) (fun i hi => (lst_y xs ys n i hi).symm)
set_option maxHeartbeats 1000000 in
theorem polygon_d (nx ny fd : Nat) (V : Value) (n : Nat) (xs ys : Nat → Nat) (w : World) (o1 : okK .f64 nx) (o2 : okK .f64 ny) (o3 : okK .f64 fd) (h : AnyS w V n xs ys) : Calls Try.prog 15 #[.agg #[.float .f64 nx, .float .f64 ny, .float .f64 fd], V] w fun e w' => ∃ v, e = .returned (.tuple #[v, .int .i64 (pgE (nx, ny, fd) xs ys n)]) ∧ NewS w.heap.size w' v (pgL (nx, ny, fd) xs ys n) ∧ Bel w w' := by
  have CK := fun W => cchk_any nx ny fd W o1 o2 o3
  have B0 : Bel w (w.alloc (.cells #[.float .f64 nx, .float .f64 ny, .float .f64 fd] 26)) := bl_alloc (bl_refl w) _ _
  have z0_0 : (w.alloc (.cells #[.float .f64 nx, .float .f64 ny, .float .f64 fd] 26)).cell? ⟨w.heap.size, 0, none⟩ = some (.float .f64 nx) := by rw [World.cell?_alloc_new]; rfl
  have z0_1 : (w.alloc (.cells #[.float .f64 nx, .float .f64 ny, .float .f64 fd] 26)).cell? ⟨w.heap.size, 1, none⟩ = some (.float .f64 ny) := by rw [World.cell?_alloc_new]; rfl
  have z0_2 : (w.alloc (.cells #[.float .f64 nx, .float .f64 ny, .float .f64 fd] 26)).cell? ⟨w.heap.size, 2, none⟩ = some (.float .f64 fd) := by rw [World.cell?_alloc_new]; rfl
  cases hP : pnB (nx, ny, fd)
  · have eP : pE (nx, ny, fd) = 90 := by unfold pE; rw [hP]; rfl
    have e1 : pgE (nx, ny, fd) xs ys n = 90 := by unfold pgE; rw [hP]; rfl
    have e2 : pgL (nx, ny, fd) xs ys n = [] := by unfold pgL; rw [e1]; rfl
    rw [e1, e2]
    obtain ⟨a, cap, rfl, _⟩ := id h
    go_enter Try.func15, Try.ntmps15
    go_wp2_with (first | (go_at_call 10; refine (CK _).mono ?_; rintro e w_1 ⟨rfl, hb⟩; rw [eP]; have B1 := bl_trans B0 hb))
    refine bodyPost_ret (v := .tuple #[.slice none 0 0, .int .i64 90]) (by simp [results, Try.results15, go_sem] <;> (first | exact ⟨⟨rfl, rfl⟩, rfl⟩ | exact ⟨rfl, rfl, rfl, rfl⟩ | exact ⟨rfl, rfl, rfl⟩ | exact ⟨rfl, rfl⟩ | rfl)) rfl ⟨_, rfl, .inl ⟨rfl, rfl⟩, B1⟩
  · have eP : pE (nx, ny, fd) = 0 := by unfold pE; rw [hP]; rfl
    have e1 : pgE (nx, ny, fd) xs ys n = chkE xs ys n := by unfold pgE; rw [hP]; rfl
    by_cases hc : chkE xs ys n = 0
    · obtain ⟨a, cap, rfl, a2, a3, a4, a5, a6⟩ := id h
      obtain ⟨g, h3, h64, _⟩ := chk_ok a5 hc
      rcases a6 with h0 | ⟨a0, b, off, rfl, sa⟩
      · omega
      have e2 : pgL (nx, ny, fd) xs ys n = leftL (nx, ny, fd) (lst xs ys n) := by unfold pgL; rw [e1, if_pos hc]
      rw [e1, e2, hc]
      have hpB := pn_bd (p := (nx, ny, fd)) o1 o2 o3 hP
      go_enter Try.func15, Try.ntmps15
      go_wp2_with (first | (go_at_call 10; refine (CK _).mono ?_; rintro e w_1 ⟨rfl, hb⟩; rw [eP]; have B1 := bl_trans B0 hb; replace z0_0 := keep hb z0_0; replace z0_1 := keep hb z0_1; replace z0_2 := keep hb z0_2; clear hb) | (go_at_call 18; refine (chk_all _ n xs ys _ (h.bel B1)).mono ?_; rintro e w_2 ⟨rfl, hb⟩; rw [hc]; have B2 := bl_trans B1 hb; replace z0_0 := keep hb z0_0; replace z0_1 := keep hb z0_1; replace z0_2 := keep hb z0_2; clear hb) | (go_at_call 52; refine (leftOf_d b off n cap (lst xs ys n) 40 nx ny fd _ (lst_len _ _ _) (sl_lst (sa.bel B2)) a0 (by omega) a2 hpB (lst_bd g) (by decide)).mono ?_; rintro e w_3 ⟨v, rfl, hN, hb⟩))
      refine bodyPost_ret (v := .tuple #[v, .int .i64 0]) (by simp [results, Try.results15, go_sem] <;> (first | exact ⟨⟨rfl, rfl⟩, rfl⟩ | exact ⟨rfl, rfl, rfl, rfl⟩ | exact ⟨rfl, rfl, rfl⟩ | exact ⟨rfl, rfl⟩ | rfl)) rfl ⟨_, rfl, hN.low B2.size, bl_trans B2 hb⟩
    · have e2 : pgL (nx, ny, fd) xs ys n = [] := by unfold pgL; rw [e1, if_neg hc]
      rw [e1, e2]
      have hc' : ¬ (chkE xs ys n == 0) = true := by simpa using hc
      obtain ⟨a, cap, rfl, _⟩ := id h
      go_enter Try.func15, Try.ntmps15
      go_wp2_with (first | (go_at_call 10; refine (CK _).mono ?_; rintro e w_1 ⟨rfl, hb⟩; rw [eP]; have B1 := bl_trans B0 hb; clear hb) | (go_at_call 18; refine (chk_all _ n xs ys _ (h.bel B1)).mono ?_; rintro e w_2 ⟨rfl, hb⟩; have B2 := bl_trans B1 hb))
      refine bodyPost_ret (v := .tuple #[.slice none 0 0, .int .i64 (chkE xs ys n)]) (by simp [results, Try.results15, go_sem] <;> (first | exact ⟨⟨rfl, rfl⟩, rfl⟩ | exact ⟨rfl, rfl, rfl, rfl⟩ | exact ⟨rfl, rfl, rfl⟩ | exact ⟨rfl, rfl⟩ | rfl)) rfl ⟨_, rfl, .inl ⟨rfl, rfl⟩, B2⟩

end Go.Proofs.Ytpedpgpgcmhnoaa
