/-
  What each function of package store answers, and what its memory holds afterwards: one contract a function; of the memory that was there only the store's own blocks have turned.
-/
import Derived.Test.YtnfhedmlifjlmaaChecked
import Derived.Test.YtnfhedmlifjlmaaSu
import Derived.Test.YtnfhedmlifjlmaaSk
import Derived.Test.YtnfhedmlifjlmaaSi
import Derived.Test.YtnfhedmlifjlmaaSz
import Derived.Test.YtnfhedmlifjlmaaStl
import Derived.RangeFuncNested
import Derived.RangeFuncBound
import Derived.RangeFuncCalls
import Derived.RangeFuncLeaves
import Derived.Shelf.Abstract
import Derived.Shelf.RegionOpen
import Derived.OwnWalkIn
import Derived.TacticsInMore
import Derived.LoopNIn
import Derived.LoopIn
import Derived.Maps.OwnIn
import Derived.Sort.LoopGhostIn
import Derived.BigRegionIn
import Derived.Stop.RegionWithIn
import Derived.Below
import Derived.BigQuiet
import Derived.OwnWalk
import Derived.Laws.AppendOwn
import Derived.Laws.AppendOwnNone
import Derived.WalkKit
import Derived.WalkLawsBesides
import Derived.WalkSpells
import Derived.ProofKit
import Derived.OpenShut
import Derived.Deep.RegionHeld3
import Derived.Deep.LoopGhost
import Derived.Laws.StructEq
import Derived.Lib.Builder
import Derived.Deep.DeepCutAuto
import Derived.Lib.SliceRun
import Derived.Laws.MakeOwn
namespace Go.Proofs.Ytnfhedmlifjlmaa
open Go.ChangeShapes Go.WideShapes Go.ChangeAt Go.RowKit Go.Lib
set_option linter.unusedVariables false
set_option linter.unusedSimpArgs false
set_option maxRecDepth 100000
set_option maxHeartbeats 4000000


theorem hRow_4 (a b : Nat × Nat) : ∀ u ∈ hRow [a, b], u.oneCell' = true := by
  intro u hu
  simp [hRow] at hu
  rcases hu with rfl | rfl | rfl | rfl <;> rfl
/-- a store and a row of handles side by side -/
structure Pa (w0 : World) (F0 : List Nat) (W : World) (m : Sm) (s : Ss) (sh : Option Addr) (rl ch : Nat) (R : List (Nat × Nat)) : Prop where
  st : Sto W m s
  gd : Gd m s
  ro : Ro 2 W sh rl ch (hRow R)
  ln : R.length = rl
  d : ∀ k, k ∈ ob sh → w0.heap.size ≤ k ∧ k ∉ m.F
  fr : Fr F0 m.F w0 W
theorem Pa.bel {w0 W W' : World} {F0 : List Nat} {m : Sm} {s : Ss} {sh : Option Addr} {rl ch : Nat} {R : List (Nat × Nat)} (h : Pa w0 F0 W m s sh rl ch R) (b : Bel W W') : Pa w0 F0 W' m s sh rl ch R :=
  ⟨h.st.bel b, h.gd, h.ro.bel b, h.ln, h.d, h.fr.trans (Fr.of_bel b)⟩
theorem Pa.sto {w0 W W' : World} {F0 : List Nat} {m m' : Sm} {s s' : Ss} {sh : Option Addr} {rl ch : Nat} {R : List (Nat × Nat)} (h : Pa w0 F0 W m s sh rl ch R) (hS : Sto W' m' s') (hG : Gd m' s') (f : Fr m.F m'.F W W') : Pa w0 F0 W' m' s' sh rl ch R :=
  ⟨hS, hG, h.ro.fr f (fun g hg => (h.d g hg).2), h.ln, fun k hk => ⟨(h.d k hk).1, f.away (h.ro.lt k hk) (h.d k hk).2⟩, h.fr.trans f⟩
theorem Pa.app {w0 W W' : World} {F0 : List Nat} {m : Sm} {s : Ss} {sh sh' : Option Addr} {rl rl' ch ch' : Nat} {R N : List (Nat × Nat)} (h : Pa w0 F0 W m s sh rl ch R) (hR : Ro 2 W' sh' rl' ch' (hRow R ++ hRow N)) (hl : R.length + N.length = rl') (f : Fr (ob sh) (ob sh') W W') : Pa w0 F0 W' m s sh' rl' ch' (R ++ N) :=
  ⟨h.st.fr f (fun k hk hm => (h.d k hm).2 hk), h.gd, by rw [hRow_app]; exact hR, by rw [List.length_append]; exact hl, fun k hk => by
    rcases f.grown k hk with h' | h'
    · exact h.d k h'
    · exact ⟨Nat.le_trans h.fr.size h', fun e => by have := h.st.sz k e; omega⟩,
   ⟨f.os.trans h.fr.os, f.tape.trans h.fr.tape, f.output.trans h.fr.output, Nat.le_trans h.fr.size f.size, fun k hk hn => (f.block k (Nat.lt_of_lt_of_le hk h.fr.size) (fun hm => by have := (h.d k hm).1; omega)).trans (h.fr.block k hk hn), h.fr.grown⟩⟩

theorem acts17 (m : Sm) (s : Ss) (w : World) (h : Sto w m s) (G : Gd m s) {p : Nat} (hp : m.p = p) (sa : Option Addr) (n cap : Nat) (Y : Nat → Int) (hA : AnyI w sa n Y) (hd : 0 < n → ∀ k, k ∈ ob sa → k ∉ m.F) (hn : n ≤ 140737488355328) : Calls Try.prog 12 #[.pointer (some ⟨p, 0, none⟩), .slice sa n cap] w fun e w' => ∃ (m1 : Sm) (s1 : Ss) (sh : Option Addr) (rl ch : Nat), e = .returned (.slice sh rl ch) ∧ m1.p = p ∧ ∃ R : List (Nat × Nat), Pa w m.F w' m1 s1 sh rl ch R ∧ ActsR (fun z => upN z 45) s ((List.range (min n 100)).map Y) R s1 ∧ rl ≤ 200 := by
  obtain ⟨F0, hF0⟩ : ∃ x, x = m.F := ⟨_, rfl⟩
  rw [← hF0]
  have hP0 : Hid (Pa w F0 w m s none 0 0 []) := (⟨h, G, Ro.nil _ _, rfl, (fun k hk => by cases hk), by rw [hF0]; exact Fr.refl _ _⟩ : Pa w F0 w m s none 0 0 [])
  rw [← hF0] at hd
  have HP0 := hide hp
  obtain ⟨nn, hnn⟩ : ∃ x, min n 100 = x := ⟨_, rfl⟩
  rw [hnn]
  have HN := hide hnn
  clear h G hp hF0 hnn
  go_enter Try.func12, Try.ntmps12
  go_wp2
  go_loopg [5, 6] 100 (fun kx s5 s6 wr => ∃ (i rl : Nat) (m1 : Sm) (s1 : Ss) (sh : Option Addr) (ch : Nat) (R : List (Nat × Nat)), s5 = .slice sh rl ch ∧ s6 = .int .i64 (i : Int) ∧ i ≤ 100 ∧ i ≤ n ∧ 100 - i ≤ kx ∧ rl ≤ 2 * i ∧ Hid (m1.p = p) ∧ Hid (Pa w F0 wr m1 s1 sh rl ch R) ∧ Hid (ActsR (fun z => upN z 45) s ((List.range i).map Y) R s1))
  case atStart => exact ⟨0, 0, m, s, none, 0, [], rfl, rfl, by decide, Nat.zero_le _, Nat.le_refl _, Nat.le_refl _, HP0.out, hP0.out, ActsR.nil⟩
  case round =>
    clear HP0 hP0
    obtain ⟨i, rl, m1, s1, sh, ch, R, rfl, rfl, hi100, hin, hikx, hrl, HP, hPa, hA1⟩ := hrel
    have ewi : IntKind.wrap .i64 ((i : Int) + 1) = (i : Int) + 1 := by rw [IntKind.wrap_i64]; omega
    by_cases hend : i < n ∧ i < 100
    · obtain ⟨hi1, hi2⟩ := hend
      have hz1 : (i : Int) < (n : Int) := by omega
      have hz2 : (i : Int) < 100 := by omega
      have e1 : rl + 2 ≤ maxLen := by unfold maxLen; omega
      have e2 : (rl + 2) * 8 ≤ 140737488355328 := by omega
      obtain ⟨b0, off, hsa, hcs, hbl⟩ : ∃ b off, sa = some ⟨b, off, none⟩ ∧ (∀ i, i < n → w.cell? ⟨b, off + i, none⟩ = some (.int .i64 (Y i))) ∧ b < w.heap.size := by
        rcases hA with h' | h'
        · omega
        · exact h'
      subst hsa
      have xa := hPa.out.fr.cell (hd (by omega) b0 (by simp [ob])) (hcs i hi1)
      have hA := hA1
      clear hA1
      by_cases hneg : Y i < 0
      · as_aux_lemma =>
          obtain ⟨a, ha⟩ : ∃ a, upN (Y i) 45 = a := ⟨_, rfl⟩
          have ha45 := (upN_is (Y i) 45 (by decide)).2
          have hup := up_s (Y i) 45 (x := 45) rfl (by decide) (by decide)
          rw [ha] at ha45 hup
          have hll := hPa.out.gd.ok.ll
          have htl := hPa.out.gd.ok.tl
          by_cases hLa : s1.L[a]? = some true
          · obtain ⟨u, hu⟩ := get_of_lt (l := s1.U) (i := a) (by have := lt_of_get hLa; omega)
            obtain ⟨tv, htv⟩ := get_of_lt (l := s1.T) (i := a) (by have := lt_of_get hLa; omega)
            obtain ⟨v, rfl⟩ := hPa.out.gd.ty tv (List.mem_of_getElem? htv)
            have hul := hPa.out.gd.ok.uo u (List.mem_of_getElem? hu)
            have hat := at_yesI m1 s1 wr hPa.out.st hPa.out.gd.ok a u hLa hu
            rw [HP.out] at hat
            have hNa : Hid (Named s1 a u) := ⟨hLa, hu⟩
            have hTa : Hid (Thing s1 a (.int .i64 v)) := htv
            obtain ⟨gv, hgv⟩ : ∃ gv : Nat, IntKind.wrap .u32 v = (gv : Int) := ⟨(IntKind.wrap .u32 v).toNat, by rw [IntKind.wrap_u32]; omega⟩
            have hAc : Hid (Act1 s1 (Y i) (upN (Y i) 45) (a, u) (gv, 0) (takeS s1 a (.int .i64 0))) := (by rw [ha]; exact Act1.take u v gv hneg hNa.out hTa.out hgv)
            clear hLa hu htv hll htl
            go_upto_region 7 with (first | (go_at_call 31; (with_reducible refine (hup _).mono ?_); rintro e w3 ⟨rfl, hw3⟩; rw [hw3]; clear hw3) | (go_at_call 30; (with_reducible refine hat.mono ?_); rintro e w4 ⟨rfl, hb4⟩))
            have hbn : w4.heap.size ∉ m1.F := fun hm => Nat.lt_irrefl _ ((hPa.out.st.bel hb4).sz _ hm)
            have bb := st_bel (W := w4) #[.int .u32 (a : Int), .int .u32 (u : Int)] 29
            have q0 : (w4.alloc (.cells #[.int .u32 (a : Int), .int .u32 (u : Int)] 29)).cell? ⟨w4.heap.size, 0, none⟩ = some (.int .u32 (a : Int)) := by rw [World.cell?_alloc_new]; rfl
            have q1 : (w4.alloc (.cells #[.int .u32 (a : Int), .int .u32 (u : Int)] 29)).cell? ⟨w4.heap.size, 1, none⟩ = some (.int .u32 (u : Int)) := by rw [World.cell?_alloc_new]; rfl
            have hP4 := hide ((hPa.out.bel hb4).bel bb)
            obtain ⟨bq, hbq⟩ : ∃ q, q = w4.heap.size := ⟨_, rfl⟩
            obtain ⟨W4, hW4⟩ : ∃ x, x = w4.alloc (.cells #[.int .u32 (a : Int), .int .u32 (u : Int)] 29) := ⟨_, rfl⟩
            rw [← hbq, ← hW4] at q0 q1
            rw [← hW4] at hP4
            rw [← hbq, ← hW4]
            rw [← hbq] at hbn
            clear hW4 hbq bb hb4 hat hPa hup
            have htk := take_dI hP4.out.st hP4.out.gd.ok HP.out (a := a) (b := u) (x := (a : Int)) (y := (u : Int)) rfl rfl (by omega) (by omega) hNa.out hTa.out
            go_upto_region 8 with (first | (go_at_call 10; (with_reducible refine htk.mono ?_); rintro e W5 ⟨rfl, hS2, hf2⟩))
            replace q0 := hf2.cell hbn q0
            replace q1 := hf2.cell hbn q1
            have hG2 := hP4.out.gd.act (m' := m1) hAc.out (fun e => .inl rfl)
            have hP := hide (hP4.out.sto hS2 hG2 hf2)
            obtain ⟨m2, hm2⟩ : ∃ x, x = m1 := ⟨_, rfl⟩
            have HP2 : Hid (m2.p = p) := by rw [hm2]; exact HP.out
            rw [← hm2] at hP
            obtain ⟨s2, hs2⟩ : ∃ x, x = takeS s1 a (.int .i64 0) := ⟨_, rfl⟩
            rw [← hs2] at hP hAc
            clear hm2 hs2 hS2 hf2 hG2 htk hP4 ha
            have bV := st_bel (W := W5) #[.int .u32 (a : Int), .int .u32 (u : Int), .int .u32 (gv : Int), .int .u32 0] 29
            obtain ⟨sh6, ch6, w6, hrun, hR6, hf6⟩ := Ro.app (P := Try.prog) 39 39 29 Try.underlying39 info_han rfl (by decide) W5.heap.size 0 2 2 (hP.out.bel bV).ro (N := hRow [(a, u), (gv, 0)]) rfl (mk_rws W5 [.int .u32 (a : Int), .int .u32 (u : Int), .int .u32 (gv : Int), .int .u32 0] 29) (hRow_4 (a, u) (gv, 0)) (by decide) e1 e2
            have hP6 := hide ((hP.out.bel bV).app (N := [(a, u), (gv, 0)]) (rl' := rl + 2) hR6 (by rw [hP.out.ln]; rfl) hf6)
            clear bV hR6 hf6
            go_wp2_with (first | (at_builtin; refine wpList_run 39 (.tmp 44) (.tmp 51) rfl rfl rfl rfl hrun ?_))
            go_roundg (100 - (i + 1))
            case measure => omega
            case rel => exact ⟨i + 1, rl + 2, m2, s2, sh6, ch6, R ++ [(a, u), (gv, 0)], rfl, by go_num, by omega, by omega, Nat.le_refl _, by omega, HP2.out, hP6.out, by rw [List.range_succ, List.map_append]; exact hA.out.snoc hAc.out⟩
          · have hat := at_noI m1 s1 wr hPa.out.st (a : Int) (fun k hk => by rw [show k = a by omega]; exact hLa)
            rw [HP.out] at hat
            have hAc : Hid (Act1 s1 (Y i) (upN (Y i) 45) (0, 0) (0, 9) s1) := (by rw [ha]; exact Act1.no hneg hLa)
            have hnn : ¬ Named s1 0 0 := fun h => hPa.out.gd.us 0 h.1 h.2
            clear hLa hll htl
            go_upto_region 7 with (first | (go_at_call 31; (with_reducible refine (hup _).mono ?_); rintro e w3 ⟨rfl, hw3⟩; rw [hw3]; clear hw3) | (go_at_call 30; (with_reducible refine hat.mono ?_); rintro e w4 ⟨rfl, hb4⟩))
            have bb := st_bel (W := w4) #[.int .u32 0, .int .u32 0] 29
            have q0 : (w4.alloc (.cells #[.int .u32 0, .int .u32 0] 29)).cell? ⟨w4.heap.size, 0, none⟩ = some (.int .u32 0) := by rw [World.cell?_alloc_new]; rfl
            have q1 : (w4.alloc (.cells #[.int .u32 0, .int .u32 0] 29)).cell? ⟨w4.heap.size, 1, none⟩ = some (.int .u32 0) := by rw [World.cell?_alloc_new]; rfl
            have hbn : w4.heap.size ∉ m1.F := fun hm => Nat.lt_irrefl _ ((hPa.out.st.bel hb4).sz _ hm)
            have hP4 := hide ((hPa.out.bel hb4).bel bb)
            obtain ⟨bq, hbq⟩ : ∃ q, q = w4.heap.size := ⟨_, rfl⟩
            obtain ⟨W4, hW4⟩ : ∃ x, x = w4.alloc (.cells #[.int .u32 0, .int .u32 0] 29) := ⟨_, rfl⟩
            rw [← hbq, ← hW4] at q0 q1
            rw [← hW4] at hP4
            rw [← hbq, ← hW4]
            rw [← hbq] at hbn
            clear hW4 hbq bb hb4 hat hPa hup
            have htk := take_nI hP4.out.st hP4.out.gd.ok HP.out (a := 0) (b := 0) (x := 0) (y := 0) rfl rfl (by decide) (by decide) hnn
            go_upto_region 8 with (first | (go_at_call 10; (with_reducible refine htk.mono ?_); rintro e W5 ⟨rfl, hS2, hf2⟩))
            replace q0 := hf2.cell hbn q0
            replace q1 := hf2.cell hbn q1
            have hP := hide (hP4.out.sto hS2 hP4.out.gd hf2)
            obtain ⟨m2, hm2⟩ : ∃ x, x = m1 := ⟨_, rfl⟩
            have HP2 : Hid (m2.p = p) := by rw [hm2]; exact HP.out
            rw [← hm2] at hP
            obtain ⟨s2, hs2⟩ : ∃ x, x = s1 := ⟨_, rfl⟩
            have hAc2 : Hid (Act1 s1 (Y i) (upN (Y i) 45) (0, 0) (0, 9) s2) := by rw [hs2]; exact hAc.out
            rw [← hs2] at hP
            clear hm2 hs2 hS2 hf2 htk hP4 ha hAc
            have hAc := hAc2
            clear hAc2
            have bV := st_bel (W := W5) #[.int .u32 0, .int .u32 0, .int .u32 0, .int .u32 9] 29
            obtain ⟨sh6, ch6, w6, hrun, hR6, hf6⟩ := Ro.app (P := Try.prog) 39 39 29 Try.underlying39 info_han rfl (by decide) W5.heap.size 0 2 2 (hP.out.bel bV).ro (N := hRow [(0, 0), (0, 9)]) rfl (mk_rws W5 [.int .u32 0, .int .u32 0, .int .u32 0, .int .u32 9] 29) (hRow_4 (0, 0) (0, 9)) (by decide) e1 e2
            have hP6 := hide ((hP.out.bel bV).app (N := [(0, 0), (0, 9)]) (rl' := rl + 2) hR6 (by rw [hP.out.ln]; rfl) hf6)
            clear bV hR6 hf6
            go_wp2_with (first | (at_builtin; refine wpList_run 39 (.tmp 44) (.tmp 51) rfl rfl rfl rfl hrun ?_))
            go_roundg (100 - (i + 1))
            case measure => omega
            case rel => exact ⟨i + 1, rl + 2, m2, s2, sh6, ch6, R ++ [(0, 0), (0, 9)], rfl, by go_num, by omega, by omega, Nat.le_refl _, by omega, HP2.out, hP6.out, by rw [List.range_succ, List.map_append]; exact hA.out.snoc hAc.out⟩
      · as_aux_lemma =>
          obtain ⟨k, hk⟩ := next_ex s1
          have hkl := hk.le
          have hum := hPa.out.gd.ok.um
          by_cases hkm : k < s1.most
          · have hput := put_dI hPa.out.st hPa.out.gd.ok (Y i) HP.out hk hkm (a := (k : Int)) (b := ((s1.U.getD k 0 + 1 : Nat) : Int)) rfl rfl
            obtain ⟨u1, hu1⟩ : ∃ u, s1.U.getD k 0 + 1 = u := ⟨_, rfl⟩
            rw [hu1] at hput
            have hAc : Hid (Act1 s1 (Y i) (upN (Y i) 45) (k, u1) (0, 0) (putS s1 k (.int .i64 (Y i)))) := (by rw [← hu1]; exact Act1.put k hneg hk hkm)
            clear hu1
            go_upto_region 10 with (first | (go_at_call 7; (with_reducible refine hput.mono ?_); rintro e w4 ⟨rfl, m2, HP2, hS2, hf2⟩))
            have hG2 := hPa.out.gd.act (m' := m2) hAc.out (fun e => .inr (fun e0 => by
              have e : (if k < s1.U.length then s1.U.set k (s1.U.getD k 0 + 1) else s1.U ++ [1]) = s1.U := e
              rw [e0] at e
              simp at e))
            have bb := st_bel (W := w4) #[.int .u32 (k : Int), .int .u32 (u1 : Int)] 29
            have q0 : (w4.alloc (.cells #[.int .u32 (k : Int), .int .u32 (u1 : Int)] 29)).cell? ⟨w4.heap.size, 0, none⟩ = some (.int .u32 (k : Int)) := by rw [World.cell?_alloc_new]; rfl
            have q1 : (w4.alloc (.cells #[.int .u32 (k : Int), .int .u32 (u1 : Int)] 29)).cell? ⟨w4.heap.size, 1, none⟩ = some (.int .u32 (u1 : Int)) := by rw [World.cell?_alloc_new]; rfl
            have hP := hide ((hPa.out.sto hS2 hG2 hf2).bel bb)
            obtain ⟨s2, hs2⟩ : ∃ x, x = putS s1 k (.int .i64 (Y i)) := ⟨_, rfl⟩
            rw [← hs2] at hP hAc
            replace HP2 := hide HP2
            obtain ⟨bq, hbq⟩ : ∃ q, q = w4.heap.size := ⟨_, rfl⟩
            obtain ⟨W5, hW5⟩ : ∃ x, x = w4.alloc (.cells #[.int .u32 (k : Int), .int .u32 (u1 : Int)] 29) := ⟨_, rfl⟩
            rw [← hbq, ← hW5] at q0 q1
            rw [← hW5] at hP
            rw [← hbq, ← hW5]
            clear hW5 hbq bb hs2 hS2 hf2 hG2 hput hPa
            have bV := st_bel (W := W5) #[.int .u32 (k : Int), .int .u32 (u1 : Int), .int .u32 0, .int .u32 0] 29
            obtain ⟨sh6, ch6, w6, hrun, hR6, hf6⟩ := Ro.app (P := Try.prog) 39 39 29 Try.underlying39 info_han rfl (by decide) W5.heap.size 0 2 2 (hP.out.bel bV).ro (N := hRow [(k, u1), (0, 0)]) rfl (mk_rws W5 [.int .u32 (k : Int), .int .u32 (u1 : Int), .int .u32 0, .int .u32 0] 29) (hRow_4 (k, u1) (0, 0)) (by decide) e1 e2
            have hP6 := hide ((hP.out.bel bV).app (N := [(k, u1), (0, 0)]) (rl' := rl + 2) hR6 (by rw [hP.out.ln]; rfl) hf6)
            clear bV hR6 hf6
            go_wp2_with (first | (at_builtin; refine wpList_run 39 (.tmp 62) (.tmp 67) rfl rfl rfl rfl hrun ?_))
            go_roundg (100 - (i + 1))
            case measure => omega
            case rel => exact ⟨i + 1, rl + 2, m2, s2, sh6, ch6, R ++ [(k, u1), (0, 0)], rfl, by go_num, by omega, by omega, Nat.le_refl _, by omega, HP2.out, hP6.out, by rw [List.range_succ, List.map_append]; exact hA.out.snoc hAc.out⟩
          · have hkm2 : k = s1.most := by omega
            have hput := put_nI hPa.out.st hPa.out.gd.ok (Y i) HP.out hk hkm2
            have hAc : Hid (Act1 s1 (Y i) (upN (Y i) 45) (0, 0) (0, 4) { s1 with nx := k }) := Act1.full k hneg hk hkm2
            have hne : s1.U ≠ [] := fun e => by
              have h2 := hPa.out.gd.mo
              rw [e] at hkl
              simp at hkl
              omega
            go_upto_region 10 with (first | (go_at_call 7; (with_reducible refine hput.mono ?_); rintro e w4 ⟨rfl, m2, HP2, hS2, hf2⟩))
            have hG2 := hPa.out.gd.act (m' := m2) hAc.out (fun e => .inr hne)
            have bb := st_bel (W := w4) #[.int .u32 0, .int .u32 0] 29
            have q0 : (w4.alloc (.cells #[.int .u32 0, .int .u32 0] 29)).cell? ⟨w4.heap.size, 0, none⟩ = some (.int .u32 0) := by rw [World.cell?_alloc_new]; rfl
            have q1 : (w4.alloc (.cells #[.int .u32 0, .int .u32 0] 29)).cell? ⟨w4.heap.size, 1, none⟩ = some (.int .u32 0) := by rw [World.cell?_alloc_new]; rfl
            have hP := hide ((hPa.out.sto hS2 hG2 hf2).bel bb)
            obtain ⟨s2, hs2⟩ : ∃ x, x = ({ s1 with nx := k } : Ss) := ⟨_, rfl⟩
            rw [← hs2] at hP hAc
            replace HP2 := hide HP2
            obtain ⟨bq, hbq⟩ : ∃ q, q = w4.heap.size := ⟨_, rfl⟩
            obtain ⟨W5, hW5⟩ : ∃ x, x = w4.alloc (.cells #[.int .u32 0, .int .u32 0] 29) := ⟨_, rfl⟩
            rw [← hbq, ← hW5] at q0 q1
            rw [← hW5] at hP
            rw [← hbq, ← hW5]
            clear hW5 hbq bb hs2 hS2 hf2 hG2 hput hPa hkm2 hne
            have bV := st_bel (W := W5) #[.int .u32 0, .int .u32 0, .int .u32 0, .int .u32 4] 29
            obtain ⟨sh6, ch6, w6, hrun, hR6, hf6⟩ := Ro.app (P := Try.prog) 39 39 29 Try.underlying39 info_han rfl (by decide) W5.heap.size 0 2 2 (hP.out.bel bV).ro (N := hRow [(0, 0), (0, 4)]) rfl (mk_rws W5 [.int .u32 0, .int .u32 0, .int .u32 0, .int .u32 4] 29) (hRow_4 (0, 0) (0, 4)) (by decide) e1 e2
            have hP6 := hide ((hP.out.bel bV).app (N := [(0, 0), (0, 4)]) (rl' := rl + 2) hR6 (by rw [hP.out.ln]; rfl) hf6)
            clear bV hR6 hf6
            go_wp2_with (first | (at_builtin; refine wpList_run 39 (.tmp 62) (.tmp 67) rfl rfl rfl rfl hrun ?_))
            go_roundg (100 - (i + 1))
            case measure => omega
            case rel => exact ⟨i + 1, rl + 2, m2, s2, sh6, ch6, R ++ [(0, 0), (0, 4)], rfl, by go_num, by omega, by omega, Nat.le_refl _, by omega, HP2.out, hP6.out, by rw [List.range_succ, List.map_append]; exact hA.out.snoc hAc.out⟩
    · have hmn : i = nn := by have := HN.out; omega
      subst hmn
      rcases (show ¬ i < n ∨ (i < n ∧ ¬ i < 100) by omega) with hx1 | ⟨hx1, hx2⟩
      · have hz1 : ¬ (i : Int) < (n : Int) := by omega
        go_wp2
        go_ret
        exact ⟨m1, s1, sh, rl, ch, rfl, HP.out, R, hPa.out, hA1.out, by omega⟩
      · have hz1 : (i : Int) < (n : Int) := by omega
        have hz2 : ¬ (i : Int) < 100 := by omega
        go_wp2
        go_ret
        exact ⟨m1, s1, sh, rl, ch, rfl, HP.out, R, hPa.out, hA1.out, by omega⟩

end Go.Proofs.Ytnfhedmlifjlmaa
