/-
  What each function of package sweep answers, and what the reference of its chapter answers: one contract a function, for every list of boxes; of the memory that was there nothing has turned.
-/
import Derived.Test.YtgcklheijcfneaaSwf
import Derived.Below
import Derived.BigQuiet
import Derived.OwnWalk
import Derived.Laws.AppendOwn
import Derived.Laws.AppendOwnNone
import Derived.WalkKit
import Derived.WalkLawsBesides
import Derived.WalkSpells
import Derived.ProofKit
import Derived.OpenShut
import Derived.Deep.RegionHeld3
import Derived.Deep.LoopGhost
namespace Go.Proofs.Ytgcklheijcfneaa
open Go.ChangeShapes Go.WideShapes Go.ChangeAt Go.RowKit Go.Shelf Go.Lib Go.Sort
set_option linter.unusedVariables false
set_option linter.unusedSimpArgs false


theorem bet_left {B C : Nat → Bo} {i j : Nat} {F S : List Nat} (h : leK .f64 (B i).1 (C j).1 = true) : betL B C ((i :: F).length + (j :: S).length) (i :: F) (j :: S) = (reach C (B i) (j :: S)).map (fun k => (i, k)) ++ betL B C (F.length + (j :: S).length) F (j :: S) := by
  rw [show (i :: F).length + (j :: S).length = (F.length + (j :: S).length) + 1 by simp only [List.length_cons]; omega, betL, if_pos h]
theorem bet_right {B C : Nat → Bo} {i j : Nat} {F S : List Nat} (h : leK .f64 (B i).1 (C j).1 = false) : betL B C ((i :: F).length + (j :: S).length) (i :: F) (j :: S) = (reach B (C j) (i :: F)).map (fun k => (k, j)) ++ betL B C ((i :: F).length + S.length) (i :: F) S := by
  rw [show (i :: F).length + (j :: S).length = ((i :: F).length + S.length) + 1 by simp only [List.length_cons]; omega, betL, if_neg (by rw [h]; simp)]
theorem bet_nil1 {B C : Nat → Bo} {f : Nat} {S : List Nat} : betL B C f [] S = [] := by cases f <;> simp [betL]
theorem bet_nil2 {B C : Nat → Bo} {f : Nat} {F : List Nat} : betL B C f F [] = [] := by cases f <;> cases F <;> simp [betL]
theorem Is.tail {w : World} {g o x : Nat} {R : List Nat} (h : Is w g o (x :: R)) : Is w g (o + 1) R := fun k r hk => by
  have := h (k + 1) r (by rw [List.getElem?_cons_succ]; exact hk)
  rwa [show o + (k + 1) = o + 1 + k by omega] at this
set_option maxRecDepth 100000 in
set_option maxHeartbeats 32000000 in
theorem bet_walk (b off n cap b2 off2 n2 cap2 : Nat) (B C : Nat → Bo) (w : World) (hB0 : Bs w b off n B) (hn : n ≤ 16384) (hb0 : b < w.heap.size) (hC0 : Bs w b2 off2 n2 C) (hn2 : n2 ≤ 16384) (hb2 : b2 < w.heap.size) :
    Calls Try.prog 12 #[.slice (some ⟨b, off, none⟩) n cap, .slice (some ⟨b2, off2, none⟩) n2 cap2] w fun e w' => ∃ F S, OrdL B n F ∧ OrdL C n2 S ∧ Below w.heap.size w w' ∧ ((65536 < (betL B C (F.length + S.length) F S).length ∧ e = .returned (.tuple #[.slice none 0 0, .int .i64 4])) ∨ ((betL B C (F.length + S.length) F S).length ≤ 65536 ∧ ∃ v L', e = .returned (.tuple #[v, .int .i64 0]) ∧ L'.Perm (betL B C (F.length + S.length) F S) ∧ (L'.Pairwise fun a b => ¬ lexO b a) ∧ OwnR 2 w.heap.size w' v (L').length (pRow (L')) ∧ (L' = [] → v = .slice none 0 0))) := by
  have cle := cmp_le .f64
  go_enter Try.func12, Try.ntmps12
  go_wp2_with (first | (go_at_call 11; first | (have zn := mO; clear zn; (with_reducible refine (ord_s b2 off2 n2 cap2 C _ hC1 hn2 hb21).mono ?_); rintro e w2 ⟨vS, S0, rfl, hOS, hOwS, hbl2, _⟩; have L2 := bw_trans hbl1 hbl2) | ((with_reducible refine (ord_s b off n cap B _ hB0 hn hb0).mono ?_); rintro e w1 ⟨vF, F0, rfl, hOF, hOwF, hbl1, _⟩; have hC1 := hC0.below hbl1; have hb21 := Nat.lt_of_lt_of_le hb2 hbl1.size; have mO := hide True.intro)))
  have hB2 := hB0.below L2
  have hC2 := hC0.below L2
  have HOF : Hid _ := hOF
  have HOS : Hid _ := hOS
  obtain ⟨sf, cf, hvF⟩ := own_len hOwF
  obtain ⟨ss, cs, hvS⟩ := own_len hOwS
  by_cases hFS : F0 = [] ∨ S0 = []
  · have hT0 : betL B C (F0.length + S0.length) F0 S0 = [] := by
      rcases hFS with h | h
      · rw [h]; exact bet_nil1
      · rw [h]; exact bet_nil2
    have HT0 : Hid _ := hT0
    subst hvF hvS
    obtain ⟨f1, hf1⟩ : ∃ f, F0.length = f := ⟨_, rfl⟩
    obtain ⟨f3, hf3⟩ : ∃ f, S0.length = f := ⟨_, rfl⟩
    have hz : f1 = 0 ∨ f3 = 0 := by
      rcases hFS with h | h
      · rw [h] at hf1; simp at hf1; omega
      · rw [h] at hf3; simp at hf3; omega
    rw [hf1, hf3]
    clear hT0 hOF hOS hOwF hOwS hFS hf1 hf3
    go_loopg [6, 8, 9] 0 (fun kx s6 s8 s9 wr => s6 = .slice sf f1 cf ∧ s8 = .slice ss f3 cs ∧ s9 = .slice none 0 0 ∧ Bel w2 wr)
    case atStart => exact ⟨rfl, rfl, rfl, bl_refl _⟩
    case round =>
      obtain ⟨rfl, rfl, rfl, hWr⟩ := hrel
      have hO : OwnR 2 w2.heap.size wr (.slice none 0 0) (([] : List (Nat × Nat))).length (pRow (([] : List (Nat × Nat)))) := OwnR.nil _ _ _
      by_cases h1 : 0 < f1
      · have h1z : (0 : Int) < (f1 : Int) := by omega
        have h3 : f3 = 0 := by omega
        subst h3
        go_wp2_with (first | (go_at_call 28; (with_reducible refine (rise_s w2.heap.size _ [] _ hO (by decide)).mono ?_); rintro e w3 ⟨rfl, L', p1, p2, p3, p4⟩))
        refine bodyPost_ret (v := .tuple #[.slice none 0 0, .int .i64 0]) (by simp [results, Try.results12, go_sem]) rfl ?_
        exact ⟨F0, S0, HOF.out, HOS.out, (bw_trans L2 hWr.1).trans (p4.mono L2.size), .inr ⟨by rw [HT0.out]; exact Nat.zero_le _, _, L', rfl, by rw [HT0.out]; exact p1, p2, p3.base L2.size, fun _ => rfl⟩⟩
      · have h3 : f1 = 0 := by omega
        subst h3
        go_wp2_with (first | (go_at_call 28; (with_reducible refine (rise_s w2.heap.size _ [] _ hO (by decide)).mono ?_); rintro e w3 ⟨rfl, L', p1, p2, p3, p4⟩))
        refine bodyPost_ret (v := .tuple #[.slice none 0 0, .int .i64 0]) (by simp [results, Try.results12, go_sem]) rfl ?_
        exact ⟨F0, S0, HOF.out, HOS.out, (bw_trans L2 hWr.1).trans (p4.mono L2.size), .inr ⟨by rw [HT0.out]; exact Nat.zero_le _, _, L', rfl, by rw [HT0.out]; exact p1, p2, p3.base L2.size, fun _ => rfl⟩⟩
  · have hF0 : 0 < F0.length := by
      cases hh : F0 with
      | nil => exact absurd (.inl hh) hFS
      | cons a l => exact Nat.succ_pos _
    have hS0 : 0 < S0.length := by
      cases hh : S0 with
      | nil => exact absurd (.inr hh) hFS
      | cons a l => exact Nat.succ_pos _
    have hOwF2 : OwnR 1 w.heap.size w2 vF (F0).length (iRow (F0)) := by
      rcases hOwF.below hbl2 (by decide) with h | h
      · exact h
      · omega
    rcases own_split hOwF2 (by decide) with ⟨h0, _⟩ | ⟨_, g1, c01, e1, _, _, hc01⟩
    · omega
    rcases own_split hOwS (by decide) with ⟨h0, _⟩ | ⟨_, g3, c03, e3, _, _, hc03⟩
    · omega
    subst e1 e3
    have hI1 := own_is hOwF2
    have hI3 := own_is hOwS
    have hlF : F0.length ≤ 16384 := Nat.le_trans hOF.len hn
    have hlS : S0.length ≤ 16384 := Nat.le_trans hOS.len hn2
    obtain ⟨TOT, hTOT⟩ : ∃ T, betL B C (F0.length + S0.length) F0 S0 = T := ⟨_, rfl⟩
    have HTOT : Hid _ := hTOT
    have hmF0 : ∀ z ∈ F0, z < n := fun z hz => ((hOF.mem z).1 hz).1
    have hmS0 : ∀ z ∈ S0, z < n2 := fun z hz => ((hOS.mem z).1 hz).1
    clear hvF hvS hFS hOwF hOwF2 hOwS hOF hOS hTOT
    go_loopg [6, 8, 9] (F0.length + S0.length) (fun kx s6 s8 s9 wr => ∃ (F S : List Nat) (acc : List (Nat × Nat)) (o1 c1 o3 c3 : Nat), s6 = .slice (some ⟨g1, o1, none⟩) F.length c1 ∧ s8 = .slice (some ⟨g3, o3, none⟩) S.length c3 ∧ Is w2 g1 o1 F ∧ Is w2 g3 o3 S ∧ F.length ≤ c1 ∧ S.length ≤ c3 ∧ F.length ≤ 16384 ∧ S.length ≤ 16384 ∧ acc.length ≤ 65536 ∧ F.length + S.length ≤ kx ∧ OwnR 2 w2.heap.size wr s9 (acc).length (pRow (acc)) ∧ Bel w2 wr ∧ Lo wr s9 ∧ Hid (acc = [] → s9 = .slice none 0 0) ∧ Hid (acc ++ betL B C (F.length + S.length) F S = TOT) ∧ (∀ z ∈ F, z < n) ∧ (∀ z ∈ S, z < n2))
    case atStart => exact ⟨F0, S0, [], 0, c01, 0, c03, rfl, rfl, hI1, hI3, hc01, hc03, hlF, hlS, Nat.zero_le _, Nat.le_refl _, OwnR.nil _ _ _, bl_refl _, fun gg n cp e => (by cases e), fun _ => rfl, HTOT.out, hmF0, hmS0⟩
    case round =>
      clear hI1 hI3 hmF0 hmS0 hF0 hS0 hlF hlS
      obtain ⟨F, S, acc, o1, c1, o3, c3, rfl, rfl, hIF, hIS, hc1, hc3, hl1, hl3, hal, hkx, hO, hWr, hLo, hNl, hA, hmF, hmS⟩ := hrel
      cases F with
      | nil =>
        have hacc : acc = TOT := by rw [← hA.out, bet_nil1, List.append_nil]
        have HAC : Hid _ := hacc
        clear hacc
        obtain ⟨f3, hf3⟩ : ∃ f, S.length = f := ⟨_, rfl⟩
        rw [hf3, List.length_nil]
        clear hf3
        go_wp2_with (first | (go_at_call 28; (with_reducible refine (rise_s w2.heap.size _ acc _ hO (by omega)).mono ?_); rintro e w3 ⟨rfl, L', p1, p2, p3, p4⟩))
        refine bodyPost_ret (v := .tuple #[u9, .int .i64 0]) (by simp [results, Try.results12, go_sem]) rfl ?_
        exact ⟨F0, S0, HOF.out, HOS.out, (bw_trans L2 hWr.1).trans (p4.mono L2.size), .inr ⟨by rw [HTOT.out, ← HAC.out]; exact hal, _, L', rfl, by rw [HTOT.out, ← HAC.out]; exact p1, p2, p3.base L2.size, fun e => hNl.out (List.Perm.nil_eq (e ▸ p1)).symm⟩⟩
      | cons i F =>
        cases S with
        | nil =>
          have hacc : acc = TOT := by rw [← hA.out, bet_nil2, List.append_nil]
          have HAC : Hid _ := hacc
          clear hacc
          obtain ⟨f1, hf1⟩ : ∃ f, F.length = f := ⟨_, rfl⟩
          rw [List.length_cons, hf1, List.length_nil]
          clear hf1
          have h1z : (0 : Int) < (f1 : Int) + 1 := by omega
          go_wp2_with (first | (go_at_call 28; (with_reducible refine (rise_s w2.heap.size _ acc _ hO (by omega)).mono ?_); rintro e w3 ⟨rfl, L', p1, p2, p3, p4⟩))
          refine bodyPost_ret (v := .tuple #[u9, .int .i64 0]) (by simp [results, Try.results12, go_sem]) rfl ?_
          exact ⟨F0, S0, HOF.out, HOS.out, (bw_trans L2 hWr.1).trans (p4.mono L2.size), .inr ⟨by rw [HTOT.out, ← HAC.out]; exact hal, _, L', rfl, by rw [HTOT.out, ← HAC.out]; exact p1, p2, p3.base L2.size, fun e => hNl.out (List.Perm.nil_eq (e ▸ p1)).symm⟩⟩
        | cons j S =>
          obtain ⟨wo, hwo⟩ : ∃ X, X = wr := ⟨_, rfl⟩
          subst hwo
          have hmeasL : F.length + (j :: S).length < gk := by simp only [List.length_cons] at hkx ⊢; omega
          have hmeasR : (i :: F).length + S.length < gk := by simp only [List.length_cons] at hkx ⊢; omega
          obtain ⟨f1, hf1⟩ : ∃ f, F.length = f := ⟨_, rfl⟩
          obtain ⟨f3, hf3⟩ : ∃ f, S.length = f := ⟨_, rfl⟩
          have HF1 : Hid (F.length = f1) := hf1
          have HF3 : Hid (S.length = f3) := hf3
          rw [List.length_cons, hf1] at hc1 hl1
          rw [List.length_cons, hf3] at hc3 hl3
          rw [List.length_cons, List.length_cons, hf1, hf3]
          clear hf1 hf3
          have hin : i < n := hmF i (List.mem_cons_self ..)
          have hjn : j < n2 := hmS j (List.mem_cons_self ..)
          have hinz : (i : Int) < (n : Int) := by omega
          have hjnz : (j : Int) < (n2 : Int) := by omega
          have h1z : (0 : Int) < (f1 : Int) + 1 := by omega
          have h3z : (0 : Int) < (f3 : Int) + 1 := by omega
          have x1 := (hIF.bel hWr) 0 i rfl
          have x3 := (hIS.bel hWr) 0 j rfl
          rw [Nat.add_zero] at x1 x3
          haveI := belBy_some wo
          have y1 := belBy_cell x1
          have y3 := belBy_cell x3
          go_wp2
          refine wp_region_quiet_bel (by kernel_rfl) (by kernel_rfl) ?_
          repeat (go_big_quiet_step (fail))
          refine wpQuiet_nil ?_
          rintro _ ⟨nq, rfl⟩
          have hb5 := nq.h
          clear y1 y3 this x1 x3
          obtain ⟨w5, hw5⟩ : ∃ x, x = nq.world := ⟨_, rfl⟩
          rw [← hw5] at hb5
          rw [← hw5]
          clear hw5 nq
          have hW5 := bl_trans hWr hb5
          obtain ⟨m0, m1, m2, m3⟩ := (hB2.bel hW5) i hin
          obtain ⟨k0, k1, k2, k3⟩ := (hC2.bel hW5) j hjn
          haveI := belBy_some w5
          have y0 := belBy_cell m0
          have y4 := belBy_cell k0
          cases hle : leK .f64 (B i).1 (C j).1 with
          | true =>
            have HLE : Hid (leK .f64 (B i).1 (C j).1 = true) := hle
            go_wp2
            refine wp_region_quiet_bel (by kernel_rfl) (by kernel_rfl) ?_
            repeat (go_big_quiet_step (fail))
            refine wpQuiet_nil ?_
            rintro _ ⟨nq, rfl⟩
            have hb6 := nq.h
            clear y0 y4 this
            obtain ⟨w6, hw6⟩ : ∃ x, x = nq.world := ⟨_, rfl⟩
            rw [← hw6] at hb6
            rw [← hw6]
            clear hw6 nq hle
            have hW6 := bl_trans hW5 hb6
            have hO6 := (hO.bel hb5).bel hb6
            replace hLo := hLo.on (Nat.le_trans hb5.size hb6.size)
            obtain ⟨q0, q1, q2, q3⟩ := (hB2.bel hW6) i hin
            have hmeas := hmeasL
            have s1c : (1 : Int) ≤ (f1 : Int) + 1 := by omega
            have s1d : (1 : Int) ≤ (c1 : Int) := by omega
            have s1e : (f1 : Int) + 1 ≤ (c1 : Int) := by omega
            clear hO hmeasR m0 m1 m2 m3 k0 k1 k2 k3
            by_cases hone : c1 = 1
            · subst hone
              have hnil : f1 + 1 ≤ 1 → ∀ (k r : Nat), ¬ F[k]? = some r := fun h k r e => by rw [List.getElem?_eq_none (by have := HF1.out; omega)] at e; cases e
              have hql := Nat.le_trans (reach_len C (B i) (j :: S)) (show (j :: S).length ≤ 16384 by simp only [List.length_cons, HF1.out, HF3.out]; omega)
              obtain ⟨Q, hQ⟩ : ∃ Q, reach C (B i) (j :: S) = Q := ⟨_, rfl⟩
              have hst : betL B C ((i :: F).length + (j :: S).length) (i :: F) (j :: S) = Q.map (fun k => (i, k)) ++ betL B C (F.length + (j :: S).length) F (j :: S) := by
                rw [← hQ]; exact bet_left HLE.out
              have hre : Calls Try.prog 27 #[.slice (some ⟨b2, off2, none⟩) n2 cap2, .slice (some ⟨g3, o3, none⟩) (f3 + 1) c3, .agg #[.float .f64 (B i).1, .float .f64 (B i).2.1, .float .f64 (B i).2.2.1, .float .f64 (B i).2.2.2]] w6 fun e w' => ∃ v, e = .returned v ∧ OwnR 1 w6.heap.size w' v Q.length (iRow Q) ∧ Bel w6 w' := by
                refine (reach_s b2 off2 n2 cap2 g3 o3 c3 (f3 + 1) C (j :: S) (B i) w6 (hC2.bel hW6) (hIS.bel hW6) hmS (by rw [List.length_cons, HF3.out]) (by omega)).mono ?_
                rintro e w' ⟨v, rfl, h1, h2⟩
                rw [hQ] at h1
                exact ⟨v, rfl, h1, h2⟩
              rw [hQ] at hql
              have HST : Hid _ := hst
              clear hst hQ
              go_wp2_with (first | (go_at_call 27; (with_reducible refine hre.mono ?_); rintro e w9 ⟨V9, rfl, ho9, hb9⟩; obtain ⟨sa, c2, rfl⟩ := own_len ho9; have hO9 := hO6.bel hb9; have hz9 := bl_trans hW6 hb9))
              have hsa : Q.length = 0 ∨ ∃ g2, sa = some ⟨g2, 0, none⟩ ∧ w6.heap.size ≤ g2 ∧ g2 < w9.heap.size ∧ Is w9 g2 0 Q := by
                rcases own_split ho9 (by decide) with ⟨h0, _⟩ | ⟨_, g2, c', e, h1, h2, _⟩
                · exact .inl h0
                · injection e with e1 _ _
                  subst e1
                  exact .inr ⟨g2, rfl, h1, h2, own_is ho9⟩
              clear ho9 hre
              go_loopg [9, 69] Q.length (fun kx s9 sc wr => ∃ (k2 : Nat) (ac2 : List (Nat × Nat)), sc = .int .i64 k2 ∧ k2 ≤ Q.length ∧ Q.length - k2 ≤ kx ∧ ac2.length = acc.length + k2 ∧ OwnR 2 w2.heap.size wr s9 (ac2).length (pRow (ac2)) ∧ Bel w2 wr ∧ Lo wr s9 ∧ Hid (ac2 = [] → s9 = .slice none 0 0) ∧ Hid (ac2 = acc ++ (Q.take k2).map (fun k => (i, k))) ∧ Hid (∀ g2, sa = some ⟨g2, 0, none⟩ → 0 < Q.length → Is wr g2 0 Q ∧ g2 < wr.heap.size ∧ ∀ gg n' cp', s9 = Value.slice (some ⟨gg, 0, none⟩) n' cp' → g2 ≠ gg))
              case atStart =>
                refine ⟨0, acc, rfl, Nat.zero_le _, Nat.le_refl _, rfl, hO9, hz9, hLo.on hb9.size, hNl, by simp [Hid], fun g2 e hp => ?_⟩
                rcases hsa with h0 | ⟨g', e', h1, h2, h3⟩
                · omega
                · rw [e] at e'
                  injection e' with e'
                  injection e' with e' _ _
                  subst e'
                  refine ⟨h3, h2, fun gg n' cp' e6 => ?_⟩
                  have := hLo gg n' cp' e6
                  omega
              case round =>
                clear hO9 hz9 hLo hNl
                obtain ⟨k2, ac2, rfl, hk2, hkx2, hal2, hO2, hW2, hL2, hN2, hE2, hI2⟩ := hrel
                have hbd : ac2.length ≤ 82000 := by omega
                have HAL : Hid _ := hal2
                clear hal2
                by_cases hlt2 : k2 < Q.length
                · have hlt2z : (k2 : Int) < (Q.length : Int) := by omega
                  have hmes : Q.length - (k2 + 1) < gk := by omega
                  have hwk2 : IntKind.wrap .i64 ((k2 : Int) + 1) = (k2 : Int) + 1 := by rw [IntKind.wrap_i64]; omega
                  obtain ⟨g2, hsg⟩ : ∃ g2, sa = some ⟨g2, 0, none⟩ := by
                    rcases hsa with h0 | ⟨g', e', _⟩
                    · omega
                    · exact ⟨g', e'⟩
                  clear hsa
                  subst hsg
                  obtain ⟨hI3, hg3', hne3⟩ := hI2.out g2 rfl (by omega)
                  obtain ⟨q, hq⟩ : ∃ q, Q[k2]? = some q := ⟨_, List.getElem?_eq_getElem hlt2⟩
                  have xq := hI3 k2 q hq
                  rw [Nat.zero_add] at xq
                  have HQ2 : Hid (Q[k2]? = some q) := hq
                  clear hq
                  have hszw := hW2.size
                  have hO3 := hO2.bel (bl_alloc (bl_refl wr) #[.int .i64 (i : Int), .int .i64 (q : Int)] 39)
                  go_wp2_with (first | (at_builtin; refine wpList_appS (P := Try.prog) (sz := 2) (by_ := 16) (R := pRow (ac2)) (N := [.int .i64 (i : Int), .int .i64 (q : Int)]) 29 39 rfl _ _ rfl Try.underlying29 info_pair rfl rfl _ 0 1 1 rfl hO3 rfl (mk_rw _ [.int .i64 (i : Int), .int .i64 (q : Int)] 39) (by intro u hu; simp only [List.mem_cons, List.not_mem_nil, or_false] at hu; rcases hu with rfl | rfl <;> rfl) (by decide) (by simp only [World.size_alloc]; omega) (by unfold maxLen; omega) (by omega) ?_; intro v2 wx hO4 hv2 hbX hoth hlow; obtain ⟨g6, c6, rfl, hg6⟩ := hv2; have B3 := hbX w2 (bl_alloc hW2 _ _) (Nat.le_refl _)))
                  go_roundg (Q.length - (k2 + 1))
                  case measure => exact hmes
                  case rel =>
                    have hlt6 : g6 < wx.heap.size := by
                      rcases own_split hO4 (by decide) with ⟨h0, _⟩ | ⟨_, g', c', e, _, h2, _⟩
                      · omega
                      · injection e with e1 _ _
                        injection e1 with e1
                        injection e1 with e1 _ _
                        rw [e1]; exact h2
                    refine ⟨k2 + 1, ac2 ++ [(i, q)], by go_num, by omega, Nat.le_refl _, by rw [List.length_append, HAL.out]; simp; omega, by rw [List.length_append, pRow_app]; exact hO4, B3, fun gg n' cp' e => ?_, fun e => absurd e (by simp), (show _ = _ from ?_), fun g2' e hp => ?_⟩
                    · injection e with e1 _ _
                      injection e1 with e1
                      injection e1 with e1 _ _
                      rw [← e1]; exact hlt6
                    · rw [hE2.out, List.append_assoc, List.take_add_one, HQ2.out, List.map_append]; rfl
                    · injection e with e
                      injection e with e _ _
                      subst e
                      have hg4 : g2 < (wr.alloc (.cells #[.int .i64 (i : Int), .int .i64 (q : Int)] 39)).heap.size := by rw [World.size_alloc]; omega
                      refine ⟨fun k' r' hk' => ?_, Nat.lt_of_lt_of_le hg4 hoth.2, fun gg n' cp' e6 => ?_⟩
                      · rw [hoth.1 g2 _ hg4 (fun gg cp' e6 => hne3 gg _ cp' e6)]
                        exact keepB (bl_alloc (bl_refl wr) _ _) (hI3 k' r' hk')
                      · injection e6 with e6 _ _
                        injection e6 with e6
                        injection e6 with e6 _ _
                        subst e6
                        rcases hg6 with h6 | ⟨cp6, h6⟩
                        · rw [World.size_alloc] at h6; omega
                        · exact hne3 _ _ _ h6
                · have hlt2z : ¬ (k2 : Int) < (Q.length : Int) := by omega
                  have hkk : k2 = Q.length := by omega
                  clear hsa hI2
                  obtain ⟨sa6, c6, hs6⟩ := own_len hO2
                  subst hs6
                  have hE3 : Hid (ac2 ++ betL B C (F.length + (j :: S).length) F (j :: S) = TOT) := (by
                    show _ = _
                    rw [hE2.out, hkk, List.take_length, ← hA.out, HST.out, List.append_assoc])
                  by_cases hmany : 65536 < ac2.length
                  · have hmz : (65536 : Int) < (ac2.length : Int) := by omega
                    have hlong : 65536 < TOT.length := by rw [← hE3.out, List.length_append]; omega
                    have HL : Hid _ := hlong
                    clear hlong
                    go_wp2
                    refine bodyPost_ret (v := .tuple #[.slice none 0 0, .int .i64 4]) (by simp [results, Try.results12, go_sem]) rfl ?_
                    first | exact ⟨F0, S0, HOF.out, HOS.out, bw_trans L2 hW2.1, .inl ⟨by rw [HTOT.out]; exact HL.out, rfl⟩⟩ | exact ⟨F0, HOF.out, S0, HOS.out, bw_trans L2 hW2.1, .inl (by rw [HTOT.out]; exact HL.out)⟩ | exact ⟨F0, HOF.out, S0, HOS.out, bw_trans L2 hW2.1, .inl ⟨by rw [HTOT.out]; exact HL.out, rfl⟩⟩
                  · have hmz : ¬ (65536 : Int) < (ac2.length : Int) := by omega
                    go_wp2
                    go_roundg (F.length + (j :: S).length)
                    case measure => exact hmeas
                    case rel => exact ⟨F, (j :: S), ac2, o1, 0, o3, c3, by first | (simp only [List.length_cons, HF1.out, HF3.out]; done) | (have z0 : f1 = 0 := (by omega); simp only [List.length_cons, HF1.out, HF3.out, z0]; done) | (have z0 : f3 = 0 := (by omega); simp only [List.length_cons, HF1.out, HF3.out, z0]), by first | (simp only [List.length_cons, HF1.out, HF3.out]; done) | (have z0 : f1 = 0 := (by omega); simp only [List.length_cons, HF1.out, HF3.out, z0]; done) | (have z0 : f3 = 0 := (by omega); simp only [List.length_cons, HF1.out, HF3.out, z0]), (fun k r hk => absurd hk (hnil (by omega) k r)), hIS, by simp only [List.length_cons, HF1.out, HF3.out]; omega, by simp only [List.length_cons, HF1.out, HF3.out]; omega, by simp only [List.length_cons, HF1.out, HF3.out]; omega, by simp only [List.length_cons, HF1.out, HF3.out]; omega, by omega, Nat.le_refl _, hO2, hW2, hL2, hN2, hE3, fun z hz => hmF z (List.mem_cons_of_mem _ hz), hmS⟩
            · have hone' : ¬ (c1 : Int) = 1 := by omega
              have hnil : f1 + 1 ≤ 1 → ∀ (k r : Nat), ¬ F[k]? = some r := fun h k r e => by rw [List.getElem?_eq_none (by have := HF1.out; omega)] at e; cases e
              have hql := Nat.le_trans (reach_len C (B i) (j :: S)) (show (j :: S).length ≤ 16384 by simp only [List.length_cons, HF1.out, HF3.out]; omega)
              obtain ⟨Q, hQ⟩ : ∃ Q, reach C (B i) (j :: S) = Q := ⟨_, rfl⟩
              have hst : betL B C ((i :: F).length + (j :: S).length) (i :: F) (j :: S) = Q.map (fun k => (i, k)) ++ betL B C (F.length + (j :: S).length) F (j :: S) := by
                rw [← hQ]; exact bet_left HLE.out
              have hre : Calls Try.prog 27 #[.slice (some ⟨b2, off2, none⟩) n2 cap2, .slice (some ⟨g3, o3, none⟩) (f3 + 1) c3, .agg #[.float .f64 (B i).1, .float .f64 (B i).2.1, .float .f64 (B i).2.2.1, .float .f64 (B i).2.2.2]] w6 fun e w' => ∃ v, e = .returned v ∧ OwnR 1 w6.heap.size w' v Q.length (iRow Q) ∧ Bel w6 w' := by
                refine (reach_s b2 off2 n2 cap2 g3 o3 c3 (f3 + 1) C (j :: S) (B i) w6 (hC2.bel hW6) (hIS.bel hW6) hmS (by rw [List.length_cons, HF3.out]) (by omega)).mono ?_
                rintro e w' ⟨v, rfl, h1, h2⟩
                rw [hQ] at h1
                exact ⟨v, rfl, h1, h2⟩
              rw [hQ] at hql
              have HST : Hid _ := hst
              clear hst hQ
              go_wp2_with (first | (go_at_call 27; (with_reducible refine hre.mono ?_); rintro e w9 ⟨V9, rfl, ho9, hb9⟩; obtain ⟨sa, c2, rfl⟩ := own_len ho9; have hO9 := hO6.bel hb9; have hz9 := bl_trans hW6 hb9))
              have hsa : Q.length = 0 ∨ ∃ g2, sa = some ⟨g2, 0, none⟩ ∧ w6.heap.size ≤ g2 ∧ g2 < w9.heap.size ∧ Is w9 g2 0 Q := by
                rcases own_split ho9 (by decide) with ⟨h0, _⟩ | ⟨_, g2, c', e, h1, h2, _⟩
                · exact .inl h0
                · injection e with e1 _ _
                  subst e1
                  exact .inr ⟨g2, rfl, h1, h2, own_is ho9⟩
              clear ho9 hre
              go_loopg [9, 69] Q.length (fun kx s9 sc wr => ∃ (k2 : Nat) (ac2 : List (Nat × Nat)), sc = .int .i64 k2 ∧ k2 ≤ Q.length ∧ Q.length - k2 ≤ kx ∧ ac2.length = acc.length + k2 ∧ OwnR 2 w2.heap.size wr s9 (ac2).length (pRow (ac2)) ∧ Bel w2 wr ∧ Lo wr s9 ∧ Hid (ac2 = [] → s9 = .slice none 0 0) ∧ Hid (ac2 = acc ++ (Q.take k2).map (fun k => (i, k))) ∧ Hid (∀ g2, sa = some ⟨g2, 0, none⟩ → 0 < Q.length → Is wr g2 0 Q ∧ g2 < wr.heap.size ∧ ∀ gg n' cp', s9 = Value.slice (some ⟨gg, 0, none⟩) n' cp' → g2 ≠ gg))
              case atStart =>
                refine ⟨0, acc, rfl, Nat.zero_le _, Nat.le_refl _, rfl, hO9, hz9, hLo.on hb9.size, hNl, by simp [Hid], fun g2 e hp => ?_⟩
                rcases hsa with h0 | ⟨g', e', h1, h2, h3⟩
                · omega
                · rw [e] at e'
                  injection e' with e'
                  injection e' with e' _ _
                  subst e'
                  refine ⟨h3, h2, fun gg n' cp' e6 => ?_⟩
                  have := hLo gg n' cp' e6
                  omega
              case round =>
                clear hO9 hz9 hLo hNl
                obtain ⟨k2, ac2, rfl, hk2, hkx2, hal2, hO2, hW2, hL2, hN2, hE2, hI2⟩ := hrel
                have hbd : ac2.length ≤ 82000 := by omega
                have HAL : Hid _ := hal2
                clear hal2
                by_cases hlt2 : k2 < Q.length
                · have hlt2z : (k2 : Int) < (Q.length : Int) := by omega
                  have hmes : Q.length - (k2 + 1) < gk := by omega
                  have hwk2 : IntKind.wrap .i64 ((k2 : Int) + 1) = (k2 : Int) + 1 := by rw [IntKind.wrap_i64]; omega
                  obtain ⟨g2, hsg⟩ : ∃ g2, sa = some ⟨g2, 0, none⟩ := by
                    rcases hsa with h0 | ⟨g', e', _⟩
                    · omega
                    · exact ⟨g', e'⟩
                  clear hsa
                  subst hsg
                  obtain ⟨hI3, hg3', hne3⟩ := hI2.out g2 rfl (by omega)
                  obtain ⟨q, hq⟩ : ∃ q, Q[k2]? = some q := ⟨_, List.getElem?_eq_getElem hlt2⟩
                  have xq := hI3 k2 q hq
                  rw [Nat.zero_add] at xq
                  have HQ2 : Hid (Q[k2]? = some q) := hq
                  clear hq
                  have hszw := hW2.size
                  have hO3 := hO2.bel (bl_alloc (bl_refl wr) #[.int .i64 (i : Int), .int .i64 (q : Int)] 39)
                  go_wp2_with (first | (at_builtin; refine wpList_appS (P := Try.prog) (sz := 2) (by_ := 16) (R := pRow (ac2)) (N := [.int .i64 (i : Int), .int .i64 (q : Int)]) 29 39 rfl _ _ rfl Try.underlying29 info_pair rfl rfl _ 0 1 1 rfl hO3 rfl (mk_rw _ [.int .i64 (i : Int), .int .i64 (q : Int)] 39) (by intro u hu; simp only [List.mem_cons, List.not_mem_nil, or_false] at hu; rcases hu with rfl | rfl <;> rfl) (by decide) (by simp only [World.size_alloc]; omega) (by unfold maxLen; omega) (by omega) ?_; intro v2 wx hO4 hv2 hbX hoth hlow; obtain ⟨g6, c6, rfl, hg6⟩ := hv2; have B3 := hbX w2 (bl_alloc hW2 _ _) (Nat.le_refl _)))
                  go_roundg (Q.length - (k2 + 1))
                  case measure => exact hmes
                  case rel =>
                    have hlt6 : g6 < wx.heap.size := by
                      rcases own_split hO4 (by decide) with ⟨h0, _⟩ | ⟨_, g', c', e, _, h2, _⟩
                      · omega
                      · injection e with e1 _ _
                        injection e1 with e1
                        injection e1 with e1 _ _
                        rw [e1]; exact h2
                    refine ⟨k2 + 1, ac2 ++ [(i, q)], by go_num, by omega, Nat.le_refl _, by rw [List.length_append, HAL.out]; simp; omega, by rw [List.length_append, pRow_app]; exact hO4, B3, fun gg n' cp' e => ?_, fun e => absurd e (by simp), (show _ = _ from ?_), fun g2' e hp => ?_⟩
                    · injection e with e1 _ _
                      injection e1 with e1
                      injection e1 with e1 _ _
                      rw [← e1]; exact hlt6
                    · rw [hE2.out, List.append_assoc, List.take_add_one, HQ2.out, List.map_append]; rfl
                    · injection e with e
                      injection e with e _ _
                      subst e
                      have hg4 : g2 < (wr.alloc (.cells #[.int .i64 (i : Int), .int .i64 (q : Int)] 39)).heap.size := by rw [World.size_alloc]; omega
                      refine ⟨fun k' r' hk' => ?_, Nat.lt_of_lt_of_le hg4 hoth.2, fun gg n' cp' e6 => ?_⟩
                      · rw [hoth.1 g2 _ hg4 (fun gg cp' e6 => hne3 gg _ cp' e6)]
                        exact keepB (bl_alloc (bl_refl wr) _ _) (hI3 k' r' hk')
                      · injection e6 with e6 _ _
                        injection e6 with e6
                        injection e6 with e6 _ _
                        subst e6
                        rcases hg6 with h6 | ⟨cp6, h6⟩
                        · rw [World.size_alloc] at h6; omega
                        · exact hne3 _ _ _ h6
                · have hlt2z : ¬ (k2 : Int) < (Q.length : Int) := by omega
                  have hkk : k2 = Q.length := by omega
                  clear hsa hI2
                  obtain ⟨sa6, c6, hs6⟩ := own_len hO2
                  subst hs6
                  have hE3 : Hid (ac2 ++ betL B C (F.length + (j :: S).length) F (j :: S) = TOT) := (by
                    show _ = _
                    rw [hE2.out, hkk, List.take_length, ← hA.out, HST.out, List.append_assoc])
                  by_cases hmany : 65536 < ac2.length
                  · have hmz : (65536 : Int) < (ac2.length : Int) := by omega
                    have hlong : 65536 < TOT.length := by rw [← hE3.out, List.length_append]; omega
                    have HL : Hid _ := hlong
                    clear hlong
                    go_wp2
                    refine bodyPost_ret (v := .tuple #[.slice none 0 0, .int .i64 4]) (by simp [results, Try.results12, go_sem]) rfl ?_
                    first | exact ⟨F0, S0, HOF.out, HOS.out, bw_trans L2 hW2.1, .inl ⟨by rw [HTOT.out]; exact HL.out, rfl⟩⟩ | exact ⟨F0, HOF.out, S0, HOS.out, bw_trans L2 hW2.1, .inl (by rw [HTOT.out]; exact HL.out)⟩ | exact ⟨F0, HOF.out, S0, HOS.out, bw_trans L2 hW2.1, .inl ⟨by rw [HTOT.out]; exact HL.out, rfl⟩⟩
                  · have hmz : ¬ (65536 : Int) < (ac2.length : Int) := by omega
                    go_wp2
                    go_roundg (F.length + (j :: S).length)
                    case measure => exact hmeas
                    case rel => exact ⟨F, (j :: S), ac2, (o1 + 1), (c1 - 1), o3, c3, by first | (simp only [List.length_cons, HF1.out, HF3.out]; done) | (have z0 : f1 = 0 := (by omega); simp only [List.length_cons, HF1.out, HF3.out, z0]; done) | (have z0 : f3 = 0 := (by omega); simp only [List.length_cons, HF1.out, HF3.out, z0]), by first | (simp only [List.length_cons, HF1.out, HF3.out]; done) | (have z0 : f1 = 0 := (by omega); simp only [List.length_cons, HF1.out, HF3.out, z0]; done) | (have z0 : f3 = 0 := (by omega); simp only [List.length_cons, HF1.out, HF3.out, z0]), hIF.tail, hIS, by simp only [List.length_cons, HF1.out, HF3.out]; omega, by simp only [List.length_cons, HF1.out, HF3.out]; omega, by simp only [List.length_cons, HF1.out, HF3.out]; omega, by simp only [List.length_cons, HF1.out, HF3.out]; omega, by omega, Nat.le_refl _, hO2, hW2, hL2, hN2, hE3, fun z hz => hmF z (List.mem_cons_of_mem _ hz), hmS⟩
          | false =>
            have HLE : Hid (leK .f64 (B i).1 (C j).1 = false) := hle
            go_wp2
            refine wp_region_quiet_bel (by kernel_rfl) (by kernel_rfl) ?_
            repeat (go_big_quiet_step (fail))
            refine wpQuiet_nil ?_
            rintro _ ⟨nq, rfl⟩
            have hb6 := nq.h
            clear y0 y4 this
            obtain ⟨w6, hw6⟩ : ∃ x, x = nq.world := ⟨_, rfl⟩
            rw [← hw6] at hb6
            rw [← hw6]
            clear hw6 nq hle
            have hW6 := bl_trans hW5 hb6
            have hO6 := (hO.bel hb5).bel hb6
            replace hLo := hLo.on (Nat.le_trans hb5.size hb6.size)
            obtain ⟨q0, q1, q2, q3⟩ := (hC2.bel hW6) j hjn
            have hmeas := hmeasR
            have s1c : (1 : Int) ≤ (f3 : Int) + 1 := by omega
            have s1d : (1 : Int) ≤ (c3 : Int) := by omega
            have s1e : (f3 : Int) + 1 ≤ (c3 : Int) := by omega
            clear hO hmeasL m0 m1 m2 m3 k0 k1 k2 k3
            by_cases hone : c3 = 1
            · subst hone
              have hnil : f3 + 1 ≤ 1 → ∀ (k r : Nat), ¬ S[k]? = some r := fun h k r e => by rw [List.getElem?_eq_none (by have := HF3.out; omega)] at e; cases e
              have hql := Nat.le_trans (reach_len B (C j) (i :: F)) (show (i :: F).length ≤ 16384 by simp only [List.length_cons, HF1.out, HF3.out]; omega)
              obtain ⟨Q, hQ⟩ : ∃ Q, reach B (C j) (i :: F) = Q := ⟨_, rfl⟩
              have hst : betL B C ((i :: F).length + (j :: S).length) (i :: F) (j :: S) = Q.map (fun k => (k, j)) ++ betL B C ((i :: F).length + S.length) (i :: F) S := by
                rw [← hQ]; exact bet_right HLE.out
              have hre : Calls Try.prog 27 #[.slice (some ⟨b, off, none⟩) n cap, .slice (some ⟨g1, o1, none⟩) (f1 + 1) c1, .agg #[.float .f64 (C j).1, .float .f64 (C j).2.1, .float .f64 (C j).2.2.1, .float .f64 (C j).2.2.2]] w6 fun e w' => ∃ v, e = .returned v ∧ OwnR 1 w6.heap.size w' v Q.length (iRow Q) ∧ Bel w6 w' := by
                refine (reach_s b off n cap g1 o1 c1 (f1 + 1) B (i :: F) (C j) w6 (hB2.bel hW6) (hIF.bel hW6) hmF (by rw [List.length_cons, HF1.out]) (by omega)).mono ?_
                rintro e w' ⟨v, rfl, h1, h2⟩
                rw [hQ] at h1
                exact ⟨v, rfl, h1, h2⟩
              rw [hQ] at hql
              have HST : Hid _ := hst
              clear hst hQ
              go_wp2_with (first | (go_at_call 27; (with_reducible refine hre.mono ?_); rintro e w9 ⟨V9, rfl, ho9, hb9⟩; obtain ⟨sa, c2, rfl⟩ := own_len ho9; have hO9 := hO6.bel hb9; have hz9 := bl_trans hW6 hb9))
              have hsa : Q.length = 0 ∨ ∃ g2, sa = some ⟨g2, 0, none⟩ ∧ w6.heap.size ≤ g2 ∧ g2 < w9.heap.size ∧ Is w9 g2 0 Q := by
                rcases own_split ho9 (by decide) with ⟨h0, _⟩ | ⟨_, g2, c', e, h1, h2, _⟩
                · exact .inl h0
                · injection e with e1 _ _
                  subst e1
                  exact .inr ⟨g2, rfl, h1, h2, own_is ho9⟩
              clear ho9 hre
              go_loopg [9, 90] Q.length (fun kx s9 sc wr => ∃ (k2 : Nat) (ac2 : List (Nat × Nat)), sc = .int .i64 k2 ∧ k2 ≤ Q.length ∧ Q.length - k2 ≤ kx ∧ ac2.length = acc.length + k2 ∧ OwnR 2 w2.heap.size wr s9 (ac2).length (pRow (ac2)) ∧ Bel w2 wr ∧ Lo wr s9 ∧ Hid (ac2 = [] → s9 = .slice none 0 0) ∧ Hid (ac2 = acc ++ (Q.take k2).map (fun k => (k, j))) ∧ Hid (∀ g2, sa = some ⟨g2, 0, none⟩ → 0 < Q.length → Is wr g2 0 Q ∧ g2 < wr.heap.size ∧ ∀ gg n' cp', s9 = Value.slice (some ⟨gg, 0, none⟩) n' cp' → g2 ≠ gg))
              case atStart =>
                refine ⟨0, acc, rfl, Nat.zero_le _, Nat.le_refl _, rfl, hO9, hz9, hLo.on hb9.size, hNl, by simp [Hid], fun g2 e hp => ?_⟩
                rcases hsa with h0 | ⟨g', e', h1, h2, h3⟩
                · omega
                · rw [e] at e'
                  injection e' with e'
                  injection e' with e' _ _
                  subst e'
                  refine ⟨h3, h2, fun gg n' cp' e6 => ?_⟩
                  have := hLo gg n' cp' e6
                  omega
              case round =>
                clear hO9 hz9 hLo hNl
                obtain ⟨k2, ac2, rfl, hk2, hkx2, hal2, hO2, hW2, hL2, hN2, hE2, hI2⟩ := hrel
                have hbd : ac2.length ≤ 82000 := by omega
                have HAL : Hid _ := hal2
                clear hal2
                by_cases hlt2 : k2 < Q.length
                · have hlt2z : (k2 : Int) < (Q.length : Int) := by omega
                  have hmes : Q.length - (k2 + 1) < gk := by omega
                  have hwk2 : IntKind.wrap .i64 ((k2 : Int) + 1) = (k2 : Int) + 1 := by rw [IntKind.wrap_i64]; omega
                  obtain ⟨g2, hsg⟩ : ∃ g2, sa = some ⟨g2, 0, none⟩ := by
                    rcases hsa with h0 | ⟨g', e', _⟩
                    · omega
                    · exact ⟨g', e'⟩
                  clear hsa
                  subst hsg
                  obtain ⟨hI3, hg3', hne3⟩ := hI2.out g2 rfl (by omega)
                  obtain ⟨q, hq⟩ : ∃ q, Q[k2]? = some q := ⟨_, List.getElem?_eq_getElem hlt2⟩
                  have xq := hI3 k2 q hq
                  rw [Nat.zero_add] at xq
                  have HQ2 : Hid (Q[k2]? = some q) := hq
                  clear hq
                  have hszw := hW2.size
                  have hO3 := hO2.bel (bl_alloc (bl_refl wr) #[.int .i64 (q : Int), .int .i64 (j : Int)] 39)
                  go_wp2_with (first | (at_builtin; refine wpList_appS (P := Try.prog) (sz := 2) (by_ := 16) (R := pRow (ac2)) (N := [.int .i64 (q : Int), .int .i64 (j : Int)]) 29 39 rfl _ _ rfl Try.underlying29 info_pair rfl rfl _ 0 1 1 rfl hO3 rfl (mk_rw _ [.int .i64 (q : Int), .int .i64 (j : Int)] 39) (by intro u hu; simp only [List.mem_cons, List.not_mem_nil, or_false] at hu; rcases hu with rfl | rfl <;> rfl) (by decide) (by simp only [World.size_alloc]; omega) (by unfold maxLen; omega) (by omega) ?_; intro v2 wx hO4 hv2 hbX hoth hlow; obtain ⟨g6, c6, rfl, hg6⟩ := hv2; have B3 := hbX w2 (bl_alloc hW2 _ _) (Nat.le_refl _)))
                  go_roundg (Q.length - (k2 + 1))
                  case measure => exact hmes
                  case rel =>
                    have hlt6 : g6 < wx.heap.size := by
                      rcases own_split hO4 (by decide) with ⟨h0, _⟩ | ⟨_, g', c', e, _, h2, _⟩
                      · omega
                      · injection e with e1 _ _
                        injection e1 with e1
                        injection e1 with e1 _ _
                        rw [e1]; exact h2
                    refine ⟨k2 + 1, ac2 ++ [(q, j)], by go_num, by omega, Nat.le_refl _, by rw [List.length_append, HAL.out]; simp; omega, by rw [List.length_append, pRow_app]; exact hO4, B3, fun gg n' cp' e => ?_, fun e => absurd e (by simp), (show _ = _ from ?_), fun g2' e hp => ?_⟩
                    · injection e with e1 _ _
                      injection e1 with e1
                      injection e1 with e1 _ _
                      rw [← e1]; exact hlt6
                    · rw [hE2.out, List.append_assoc, List.take_add_one, HQ2.out, List.map_append]; rfl
                    · injection e with e
                      injection e with e _ _
                      subst e
                      have hg4 : g2 < (wr.alloc (.cells #[.int .i64 (q : Int), .int .i64 (j : Int)] 39)).heap.size := by rw [World.size_alloc]; omega
                      refine ⟨fun k' r' hk' => ?_, Nat.lt_of_lt_of_le hg4 hoth.2, fun gg n' cp' e6 => ?_⟩
                      · rw [hoth.1 g2 _ hg4 (fun gg cp' e6 => hne3 gg _ cp' e6)]
                        exact keepB (bl_alloc (bl_refl wr) _ _) (hI3 k' r' hk')
                      · injection e6 with e6 _ _
                        injection e6 with e6
                        injection e6 with e6 _ _
                        subst e6
                        rcases hg6 with h6 | ⟨cp6, h6⟩
                        · rw [World.size_alloc] at h6; omega
                        · exact hne3 _ _ _ h6
                · have hlt2z : ¬ (k2 : Int) < (Q.length : Int) := by omega
                  have hkk : k2 = Q.length := by omega
                  clear hsa hI2
                  obtain ⟨sa6, c6, hs6⟩ := own_len hO2
                  subst hs6
                  have hE3 : Hid (ac2 ++ betL B C ((i :: F).length + S.length) (i :: F) S = TOT) := (by
                    show _ = _
                    rw [hE2.out, hkk, List.take_length, ← hA.out, HST.out, List.append_assoc])
                  by_cases hmany : 65536 < ac2.length
                  · have hmz : (65536 : Int) < (ac2.length : Int) := by omega
                    have hlong : 65536 < TOT.length := by rw [← hE3.out, List.length_append]; omega
                    have HL : Hid _ := hlong
                    clear hlong
                    go_wp2
                    refine bodyPost_ret (v := .tuple #[.slice none 0 0, .int .i64 4]) (by simp [results, Try.results12, go_sem]) rfl ?_
                    first | exact ⟨F0, S0, HOF.out, HOS.out, bw_trans L2 hW2.1, .inl ⟨by rw [HTOT.out]; exact HL.out, rfl⟩⟩ | exact ⟨F0, HOF.out, S0, HOS.out, bw_trans L2 hW2.1, .inl (by rw [HTOT.out]; exact HL.out)⟩ | exact ⟨F0, HOF.out, S0, HOS.out, bw_trans L2 hW2.1, .inl ⟨by rw [HTOT.out]; exact HL.out, rfl⟩⟩
                  · have hmz : ¬ (65536 : Int) < (ac2.length : Int) := by omega
                    go_wp2
                    go_roundg ((i :: F).length + S.length)
                    case measure => exact hmeas
                    case rel => exact ⟨(i :: F), S, ac2, o1, c1, o3, 0, by first | (simp only [List.length_cons, HF1.out, HF3.out]; done) | (have z0 : f1 = 0 := (by omega); simp only [List.length_cons, HF1.out, HF3.out, z0]; done) | (have z0 : f3 = 0 := (by omega); simp only [List.length_cons, HF1.out, HF3.out, z0]), by first | (simp only [List.length_cons, HF1.out, HF3.out]; done) | (have z0 : f1 = 0 := (by omega); simp only [List.length_cons, HF1.out, HF3.out, z0]; done) | (have z0 : f3 = 0 := (by omega); simp only [List.length_cons, HF1.out, HF3.out, z0]), hIF, (fun k r hk => absurd hk (hnil (by omega) k r)), by simp only [List.length_cons, HF1.out, HF3.out]; omega, by simp only [List.length_cons, HF1.out, HF3.out]; omega, by simp only [List.length_cons, HF1.out, HF3.out]; omega, by simp only [List.length_cons, HF1.out, HF3.out]; omega, by omega, Nat.le_refl _, hO2, hW2, hL2, hN2, hE3, hmF, fun z hz => hmS z (List.mem_cons_of_mem _ hz)⟩
            · have hone' : ¬ (c3 : Int) = 1 := by omega
              have hnil : f3 + 1 ≤ 1 → ∀ (k r : Nat), ¬ S[k]? = some r := fun h k r e => by rw [List.getElem?_eq_none (by have := HF3.out; omega)] at e; cases e
              have hql := Nat.le_trans (reach_len B (C j) (i :: F)) (show (i :: F).length ≤ 16384 by simp only [List.length_cons, HF1.out, HF3.out]; omega)
              obtain ⟨Q, hQ⟩ : ∃ Q, reach B (C j) (i :: F) = Q := ⟨_, rfl⟩
              have hst : betL B C ((i :: F).length + (j :: S).length) (i :: F) (j :: S) = Q.map (fun k => (k, j)) ++ betL B C ((i :: F).length + S.length) (i :: F) S := by
                rw [← hQ]; exact bet_right HLE.out
              have hre : Calls Try.prog 27 #[.slice (some ⟨b, off, none⟩) n cap, .slice (some ⟨g1, o1, none⟩) (f1 + 1) c1, .agg #[.float .f64 (C j).1, .float .f64 (C j).2.1, .float .f64 (C j).2.2.1, .float .f64 (C j).2.2.2]] w6 fun e w' => ∃ v, e = .returned v ∧ OwnR 1 w6.heap.size w' v Q.length (iRow Q) ∧ Bel w6 w' := by
                refine (reach_s b off n cap g1 o1 c1 (f1 + 1) B (i :: F) (C j) w6 (hB2.bel hW6) (hIF.bel hW6) hmF (by rw [List.length_cons, HF1.out]) (by omega)).mono ?_
                rintro e w' ⟨v, rfl, h1, h2⟩
                rw [hQ] at h1
                exact ⟨v, rfl, h1, h2⟩
              rw [hQ] at hql
              have HST : Hid _ := hst
              clear hst hQ
              go_wp2_with (first | (go_at_call 27; (with_reducible refine hre.mono ?_); rintro e w9 ⟨V9, rfl, ho9, hb9⟩; obtain ⟨sa, c2, rfl⟩ := own_len ho9; have hO9 := hO6.bel hb9; have hz9 := bl_trans hW6 hb9))
              have hsa : Q.length = 0 ∨ ∃ g2, sa = some ⟨g2, 0, none⟩ ∧ w6.heap.size ≤ g2 ∧ g2 < w9.heap.size ∧ Is w9 g2 0 Q := by
                rcases own_split ho9 (by decide) with ⟨h0, _⟩ | ⟨_, g2, c', e, h1, h2, _⟩
                · exact .inl h0
                · injection e with e1 _ _
                  subst e1
                  exact .inr ⟨g2, rfl, h1, h2, own_is ho9⟩
              clear ho9 hre
              go_loopg [9, 90] Q.length (fun kx s9 sc wr => ∃ (k2 : Nat) (ac2 : List (Nat × Nat)), sc = .int .i64 k2 ∧ k2 ≤ Q.length ∧ Q.length - k2 ≤ kx ∧ ac2.length = acc.length + k2 ∧ OwnR 2 w2.heap.size wr s9 (ac2).length (pRow (ac2)) ∧ Bel w2 wr ∧ Lo wr s9 ∧ Hid (ac2 = [] → s9 = .slice none 0 0) ∧ Hid (ac2 = acc ++ (Q.take k2).map (fun k => (k, j))) ∧ Hid (∀ g2, sa = some ⟨g2, 0, none⟩ → 0 < Q.length → Is wr g2 0 Q ∧ g2 < wr.heap.size ∧ ∀ gg n' cp', s9 = Value.slice (some ⟨gg, 0, none⟩) n' cp' → g2 ≠ gg))
              case atStart =>
                refine ⟨0, acc, rfl, Nat.zero_le _, Nat.le_refl _, rfl, hO9, hz9, hLo.on hb9.size, hNl, by simp [Hid], fun g2 e hp => ?_⟩
                rcases hsa with h0 | ⟨g', e', h1, h2, h3⟩
                · omega
                · rw [e] at e'
                  injection e' with e'
                  injection e' with e' _ _
                  subst e'
                  refine ⟨h3, h2, fun gg n' cp' e6 => ?_⟩
                  have := hLo gg n' cp' e6
                  omega
              case round =>
                clear hO9 hz9 hLo hNl
                obtain ⟨k2, ac2, rfl, hk2, hkx2, hal2, hO2, hW2, hL2, hN2, hE2, hI2⟩ := hrel
                have hbd : ac2.length ≤ 82000 := by omega
                have HAL : Hid _ := hal2
                clear hal2
                by_cases hlt2 : k2 < Q.length
                · have hlt2z : (k2 : Int) < (Q.length : Int) := by omega
                  have hmes : Q.length - (k2 + 1) < gk := by omega
                  have hwk2 : IntKind.wrap .i64 ((k2 : Int) + 1) = (k2 : Int) + 1 := by rw [IntKind.wrap_i64]; omega
                  obtain ⟨g2, hsg⟩ : ∃ g2, sa = some ⟨g2, 0, none⟩ := by
                    rcases hsa with h0 | ⟨g', e', _⟩
                    · omega
                    · exact ⟨g', e'⟩
                  clear hsa
                  subst hsg
                  obtain ⟨hI3, hg3', hne3⟩ := hI2.out g2 rfl (by omega)
                  obtain ⟨q, hq⟩ : ∃ q, Q[k2]? = some q := ⟨_, List.getElem?_eq_getElem hlt2⟩
                  have xq := hI3 k2 q hq
                  rw [Nat.zero_add] at xq
                  have HQ2 : Hid (Q[k2]? = some q) := hq
                  clear hq
                  have hszw := hW2.size
                  have hO3 := hO2.bel (bl_alloc (bl_refl wr) #[.int .i64 (q : Int), .int .i64 (j : Int)] 39)
                  go_wp2_with (first | (at_builtin; refine wpList_appS (P := Try.prog) (sz := 2) (by_ := 16) (R := pRow (ac2)) (N := [.int .i64 (q : Int), .int .i64 (j : Int)]) 29 39 rfl _ _ rfl Try.underlying29 info_pair rfl rfl _ 0 1 1 rfl hO3 rfl (mk_rw _ [.int .i64 (q : Int), .int .i64 (j : Int)] 39) (by intro u hu; simp only [List.mem_cons, List.not_mem_nil, or_false] at hu; rcases hu with rfl | rfl <;> rfl) (by decide) (by simp only [World.size_alloc]; omega) (by unfold maxLen; omega) (by omega) ?_; intro v2 wx hO4 hv2 hbX hoth hlow; obtain ⟨g6, c6, rfl, hg6⟩ := hv2; have B3 := hbX w2 (bl_alloc hW2 _ _) (Nat.le_refl _)))
                  go_roundg (Q.length - (k2 + 1))
                  case measure => exact hmes
                  case rel =>
                    have hlt6 : g6 < wx.heap.size := by
                      rcases own_split hO4 (by decide) with ⟨h0, _⟩ | ⟨_, g', c', e, _, h2, _⟩
                      · omega
                      · injection e with e1 _ _
                        injection e1 with e1
                        injection e1 with e1 _ _
                        rw [e1]; exact h2
                    refine ⟨k2 + 1, ac2 ++ [(q, j)], by go_num, by omega, Nat.le_refl _, by rw [List.length_append, HAL.out]; simp; omega, by rw [List.length_append, pRow_app]; exact hO4, B3, fun gg n' cp' e => ?_, fun e => absurd e (by simp), (show _ = _ from ?_), fun g2' e hp => ?_⟩
                    · injection e with e1 _ _
                      injection e1 with e1
                      injection e1 with e1 _ _
                      rw [← e1]; exact hlt6
                    · rw [hE2.out, List.append_assoc, List.take_add_one, HQ2.out, List.map_append]; rfl
                    · injection e with e
                      injection e with e _ _
                      subst e
                      have hg4 : g2 < (wr.alloc (.cells #[.int .i64 (q : Int), .int .i64 (j : Int)] 39)).heap.size := by rw [World.size_alloc]; omega
                      refine ⟨fun k' r' hk' => ?_, Nat.lt_of_lt_of_le hg4 hoth.2, fun gg n' cp' e6 => ?_⟩
                      · rw [hoth.1 g2 _ hg4 (fun gg cp' e6 => hne3 gg _ cp' e6)]
                        exact keepB (bl_alloc (bl_refl wr) _ _) (hI3 k' r' hk')
                      · injection e6 with e6 _ _
                        injection e6 with e6
                        injection e6 with e6 _ _
                        subst e6
                        rcases hg6 with h6 | ⟨cp6, h6⟩
                        · rw [World.size_alloc] at h6; omega
                        · exact hne3 _ _ _ h6
                · have hlt2z : ¬ (k2 : Int) < (Q.length : Int) := by omega
                  have hkk : k2 = Q.length := by omega
                  clear hsa hI2
                  obtain ⟨sa6, c6, hs6⟩ := own_len hO2
                  subst hs6
                  have hE3 : Hid (ac2 ++ betL B C ((i :: F).length + S.length) (i :: F) S = TOT) := (by
                    show _ = _
                    rw [hE2.out, hkk, List.take_length, ← hA.out, HST.out, List.append_assoc])
                  by_cases hmany : 65536 < ac2.length
                  · have hmz : (65536 : Int) < (ac2.length : Int) := by omega
                    have hlong : 65536 < TOT.length := by rw [← hE3.out, List.length_append]; omega
                    have HL : Hid _ := hlong
                    clear hlong
                    go_wp2
                    refine bodyPost_ret (v := .tuple #[.slice none 0 0, .int .i64 4]) (by simp [results, Try.results12, go_sem]) rfl ?_
                    first | exact ⟨F0, S0, HOF.out, HOS.out, bw_trans L2 hW2.1, .inl ⟨by rw [HTOT.out]; exact HL.out, rfl⟩⟩ | exact ⟨F0, HOF.out, S0, HOS.out, bw_trans L2 hW2.1, .inl (by rw [HTOT.out]; exact HL.out)⟩ | exact ⟨F0, HOF.out, S0, HOS.out, bw_trans L2 hW2.1, .inl ⟨by rw [HTOT.out]; exact HL.out, rfl⟩⟩
                  · have hmz : ¬ (65536 : Int) < (ac2.length : Int) := by omega
                    go_wp2
                    go_roundg ((i :: F).length + S.length)
                    case measure => exact hmeas
                    case rel => exact ⟨(i :: F), S, ac2, o1, c1, (o3 + 1), (c3 - 1), by first | (simp only [List.length_cons, HF1.out, HF3.out]; done) | (have z0 : f1 = 0 := (by omega); simp only [List.length_cons, HF1.out, HF3.out, z0]; done) | (have z0 : f3 = 0 := (by omega); simp only [List.length_cons, HF1.out, HF3.out, z0]), by first | (simp only [List.length_cons, HF1.out, HF3.out]; done) | (have z0 : f1 = 0 := (by omega); simp only [List.length_cons, HF1.out, HF3.out, z0]; done) | (have z0 : f3 = 0 := (by omega); simp only [List.length_cons, HF1.out, HF3.out, z0]), hIF, hIS.tail, by simp only [List.length_cons, HF1.out, HF3.out]; omega, by simp only [List.length_cons, HF1.out, HF3.out]; omega, by simp only [List.length_cons, HF1.out, HF3.out]; omega, by simp only [List.length_cons, HF1.out, HF3.out]; omega, by omega, Nat.le_refl _, hO2, hW2, hL2, hN2, hE3, hmF, fun z hz => hmS z (List.mem_cons_of_mem _ hz)⟩

end Go.Proofs.Ytgcklheijcfneaa
