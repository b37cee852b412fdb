/-
  What each function of package grid answers: one contract a function.
-/
import Derived.Test.YtekhnolpgoejdabGk
import Derived.Test.YtekhnolpgoejdabGl
import Derived.Laws.FloatArith
import Derived.Laws.StructEq
import Derived.Deep.DeepCutAuto
import Derived.Laws.MakeOwn
import Derived.Below
import Derived.BigQuiet
import Derived.OwnWalk
import Derived.Laws.AppendOwn
import Derived.Laws.AppendOwnNone
import Derived.WalkKit
import Derived.WalkLawsBesides
import Derived.WalkSpells
import Derived.ProofKit
import Derived.OpenShut
import Derived.Deep.RegionHeld3
import Derived.Deep.LoopGhost
namespace Go.Proofs.Ytekhnolpgoejdab
open Go.ChangeShapes Go.WideShapes Go.ChangeAt Go.RowKit Go.Shelf Go.Lib Go.Sort
set_option linter.unusedVariables false
set_option linter.unusedSimpArgs false


theorem row_of {base : Nat} {w : World} {v : Value} {L : List Nat} {K : Nat → Prop} (h : OwnR 1 base w v L.length (iRow L)) (ho : ∀ g, vb v = some g → base ≤ g ∧ g < w.heap.size ∧ ∃ o, w.heap[g]? = some o ∧ o.isCells = true) (hK : ∀ k, K k → k < base) : ∃ sa cap, v = .slice sa L.length cap ∧ RowN w w.heap.size K sa L := by
  rcases h.2 with ⟨rfl, e⟩ | ⟨g, cap, rfl, hb, _⟩
  · have e0 : L = [] := List.eq_nil_of_length_eq_zero e
    subst e0
    exact ⟨none, 0, rfl, .inl rfl⟩
  · have hg := ho g rfl
    exact ⟨some ⟨g, 0, none⟩, cap, rfl, .inr ⟨g, 0, rfl, hg.2.1, fun hk => by have := hK g hk; omega, own_is h⟩⟩
theorem row_cap {sz base : Nat} {w : World} {s : Option Addr} {n cap : Nat} {R : List Value} (h : OwnR sz base w (.slice s n cap) n R) : n ≤ cap ∧ cap ≤ 9223372036854775807 := by
  rcases h.2 with ⟨e, _⟩ | ⟨g, cp, e, _, h3, h4, _⟩
  · cases e; exact ⟨Nat.le_refl _, by decide⟩
  · cases e
    have : maxLen ≤ 9223372036854775807 := by unfold maxLen; decide
    exact ⟨h3, Nat.le_trans (by first | exact h4 | omega) this⟩
theorem sm_wd_len (B : Nat → Bo) (d : Nat) : ∀ n, (nums (wdB B d) n).length + (nums (smB B d) n).length ≤ n
  | 0 => by simp [nums]
  | n + 1 => by
    have ih := sm_wd_len B d n
    cases hw : wdB B d n with
    | true =>
      have hs : smB B d n = false := by
        unfold smB
        have := (wdB_parts hw).2
        rw [this]; simp
      rw [nums_yes hw, nums_no hs, List.length_append]
      simp only [List.length_cons, List.length_nil]
      omega
    | false =>
      rw [nums_no hw]
      cases hs : smB B d n with
      | true => rw [nums_yes hs, List.length_append]; simp only [List.length_cons, List.length_nil]; omega
      | false => rw [nums_no hs]; omega

/-- what grid.Pairs answers -/
def gpL (B : Nat → Bo) (n d : Nat) : List (Nat × Nat) := if mayW d then refP B n else []
theorem gpL_len {B : Nat → Bo} {n d : Nat} (h : n ≤ 200) : (gpL B n d).length ≤ 40000 := by
  unfold gpL
  split
  · exact refP_sq B h
  · simp
set_option maxHeartbeats 16000000 in
theorem pairs14_s (sa : Option Addr) (n cap d : Nat) (B : Nat → Bo) (w : World) (hA : AnyB w sa n B) (hn : n ≤ 200) :
    Calls Try.prog 7 #[.slice sa n cap, .float .f64 d] w fun e w' => ∃ v, e = .returned (.tuple #[v, .int .i64 (ckG n d)]) ∧ OwnR 2 w.heap.size w' v (gpL B n d).length (pRow (gpL B n d)) ∧ (gpL B n d = [] → v = .slice none 0 0) ∧ Below w.heap.size w w' := by
  cases hm : mayW d with
  | false =>
    have e1 : ckG n d = 140 := by unfold ckG; rw [if_neg (by omega), hm]; rfl
    have e2 : gpL B n d = [] := by unfold gpL; rw [hm]; rfl
    rw [e1, e2]
    go_enter Try.func7, Try.ntmps7
    go_wp2_with (first | (go_at_call 18; (with_reducible refine (check_s sa n cap d _).mono ?_); rintro e w' ⟨rfl, hw⟩; rw [hw, e1]; clear hw))
    refine bodyPost_ret (v := .tuple #[.slice none 0 0, .int .i64 140]) (by simp [results, Try.results7, go_sem]) rfl ?_
    exact ⟨_, rfl, OwnR.nil _ _ _, fun _ => rfl, Below.refl _ _⟩
  | true =>
    have e1 : ckG n d = 0 := by unfold ckG; rw [if_neg (by omega), hm]; rfl
    have e2 : gpL B n d = refP B n := by unfold gpL; rw [hm]; rfl
    rw [e1, e2]
    have HA : Hid _ := hA
    have hlay := lay_s sa n cap d B w hA hn hm
    clear hA e2
    have hsw := nums_len (smB B d) n
    have hww := nums_len (wdB B d) n
    have hsum : (nums (wdB B d) n).length + (nums (smB B d) n).length ≤ 200 := Nat.le_trans (sm_wd_len B d n) hn
    go_enter Try.func7, Try.ntmps7
    go_upto_region 5 with (first | (go_at_call 18; (with_reducible refine (check_s sa n cap d _).mono ?_); rintro e w' ⟨rfl, hw⟩; rw [hw, e1]; clear hw) | (go_at_call 19; (with_reducible refine hlay.mono ?_); rintro e W0 ⟨rfl, v3, v4, M, ck, hL, hB0⟩))
    clear hlay
    obtain ⟨NS, hNS⟩ : ∃ N, (nums (smB B d) n).length = N := ⟨_, rfl⟩
    obtain ⟨NW, hNW⟩ : ∃ N, (nums (wdB B d) n).length = N := ⟨_, rfl⟩
    have HL : Hid _ := hL
    obtain ⟨ss, cs, hv3, hRs⟩ := row_of (K := (· = w.heap.size + 2)) hL.o3 (fun g e => (hL.obj v3 (by simp) g e)) (fun k hk => by have hk : k = w.heap.size + 2 := hk; omega)
    obtain ⟨sw, cw, hv4, hRw⟩ := row_of (K := (· = w.heap.size + 2)) hL.o4 (fun g e => (hL.obj v4 (by simp) g e)) (fun k hk => by have hk : k = w.heap.size + 2 := hk; omega)
    rw [hNS] at hv3
    rw [hNW] at hv4
    subst hv3 hv4
    have hsz := hL.sz
    have hBx : BoxN W0 W0.heap.size (fun k => k = w.heap.size + 2 ∨ k = w.heap.size + 1) sa n B := by
      rcases HA.out with h0 | ⟨b, off, e, hb, hbl⟩
      · exact .inl h0
      · exact .inr ⟨b, off, e, by omega, by omega, hb.below hB0⟩
    have hcw : NW ≤ cw ∧ cw ≤ 9223372036854775807 := by have h4 := hL.o4; rw [hNW] at h4; exact row_cap h4
    have hg6 := hL.g6
    have hpw := pairWide_s (w.heap.size + 2) W0.heap.size n cap NW cw NS cs sa sw ss B (nums (wdB B d) n) (nums (smB B d) n) _ _ _ W0 hg6 (by omega) (Nat.le_refl _) (hBx.mono (fun k hk => .inl hk)) hRw hRs hNW hNS (fun k hk => (nums_mem.1 hk).1) (fun k hk => (nums_mem.1 hk).1) (by omega) hcw.1 hcw.2 (OwnR.nil _ _ _)
    have HNS : Hid _ := hNS
    have HNW : Hid _ := hNW
    clear hNS hNW hg6
    go_upto_region 8 with (first | (go_at_call 20; (with_reducible refine hpw.mono ?_); rintro e w1 ⟨rfl, u1, hg1, hO1, hS1, hz1⟩))
    clear hpw
    obtain ⟨LW, hLW⟩ : ∃ L, wdL B (nums (wdB B d) n) (nums (smB B d) n) NW = L := ⟨_, rfl⟩
    rw [hLW] at hO1 hz1
    have hP := ps_start (d := d) (B := B) HL.out hg1 hS1 hO1 hz1
    have hps := pairSmall_s W0 w.heap.size n cap d NS cs sa ss B _ u1 M ck LW w1 HL.out hP hBx HNS.out hn hm (by rw [← hLW, ← HNW.out])
    have HLW : Hid _ := hLW
    clear hLW hP hg1 hO1 hz1
    go_upto_region 11 with (first | (go_at_call 21; (with_reducible refine hps.mono ?_); rintro e w2 ⟨rfl, V, u, Q, hP2, hV⟩))
    clear hps
    have hall := all_pairs hm hP2.q hV
    rw [HNW.out, HLW.out] at hall
    have hlen : (LW ++ Q).length = (refP B n).length := lex_len hall.1 lex_allB hall.2
    have hsq := refP_sq B hn
    have c5 := hP2.g6.c5
    have hb2 : Below w.heap.size w w2 := hB0.trans (hP2.st.low (Nat.le_trans (by omega) hsz) (fun k hk => by omega))
    have hsrt := sort14_s W0.heap.size u (LW ++ Q) w2 hP2.ow (by rw [hlen]; omega)
    obtain ⟨sp, cp, hu⟩ : ∃ sp cp, u = .slice sp (LW ++ Q).length cp := by
      obtain ⟨sp, cp, e, _⟩ := own_prow hP2.ow
      exact ⟨sp, cp, e⟩
    have hzn := hP2.zn
    rw [hlen] at hu hzn
    obtain ⟨NQ, hNQ⟩ : ∃ N, (refP B n).length = N := ⟨_, rfl⟩
    rw [hNQ] at hu
    subst hu
    have hlg := hP2.g6.lt
    have HALL : Hid _ := hall
    have HNQ : Hid _ := hNQ
    have HG6 : Hid _ := hP2.g6
    have HZN : Hid _ := hzn
    clear hall hlen hzn hP2 hNQ hV
    go_wp2_with (first | (go_at_call 22; (with_reducible refine hsrt.mono ?_); rintro e w3 ⟨rfl, L', h1, h2, h3, h4⟩; have c53 := (HG6.out.below h4 (by omega)).c5))
    have hL' : L' = refP B n := lex_is h1 HALL.out.1 h2 lex_allB HALL.out.2
    rw [hL'] at h3
    refine bodyPost_ret (v := .tuple #[.slice sp NQ cp, .int .i64 0]) (by simp [results, Try.results7, go_sem]) rfl ?_
    exact ⟨_, rfl, h3.base (by omega), fun e => HZN.out (by rw [e]; rfl), hb2.trans (h4.mono (by omega))⟩

end Go.Proofs.Ytekhnolpgoejdab
