/-
  What each function of package grid answers: one contract a function.
-/
import Derived.Test.YtekhnolpgoejdabGj
import Derived.Test.YtekhnolpgoejdabGh
import Derived.Test.YtekhnolpgoejdabGf
import Derived.Laws.FloatArith
import Derived.Laws.StructEq
import Derived.Deep.DeepCutAuto
import Derived.Laws.MakeOwn
import Derived.RangeFuncNested
import Derived.RangeFuncBound
import Derived.RangeFuncCalls
import Derived.RangeFuncLeaves
import Derived.Shelf.Abstract
import Derived.Shelf.RegionOpen
import Derived.OwnWalkIn
import Derived.TacticsInMore
import Derived.LoopNIn
import Derived.LoopIn
import Derived.Maps.OwnIn
import Derived.Sort.LoopGhostIn
import Derived.Below
import Derived.BigQuiet
import Derived.OwnWalk
import Derived.Laws.AppendOwn
import Derived.Laws.AppendOwnNone
import Derived.WalkKit
import Derived.WalkLawsBesides
import Derived.WalkSpells
import Derived.ProofKit
import Derived.OpenShut
import Derived.Deep.RegionHeld3
import Derived.Deep.LoopGhost
namespace Go.Proofs.Ytekhnolpgoejdab
open Go.ChangeShapes Go.WideShapes Go.ChangeAt Go.RowKit Go.Shelf Go.Lib Go.Sort
set_option linter.unusedVariables false
set_option linter.unusedSimpArgs false


attribute [local go_sem] Oper.semAt_some
theorem PSt.shut {W0 W W' : World} {s0 n : Nat} {sa : Option Addr} {cap d : Nat} {B : Nat → Bo} {v3 v4 u : Value} {M : List En} {ck : Nat} {L : List (Nat × Nat)} {V : List Ce} {Q : List (Nat × Nat)} {X : List Nat} (h : PSt W0 W s0 n sa cap d B v3 v4 M ck L V V u Q X) (h0 : s0 + 4 ≤ W0.heap.size) {Ds : List Nat} (hS : Shut Ds W W') (hD : ∀ D, D ∈ Ds → W0.heap.size ≤ D ∧ W.heap[D]? = some (.deferred (some []))) : PSt W0 W' s0 n sa cap d B v3 v4 M ck L V V u Q [] := by
  refine (h.less (X' := []) (fun x hx => by cases hx)).keep h0 hS.os hS.tape hS.output (Nat.le_of_eq hS.size.symm) (fun j hj hn hc => hS.block j (fun hd => ?_)) ((hS.block _ (fun hd => by have := (hD _ hd).1; omega)).trans h.mp)
  rcases hc with hc | hc | hc
  · have := (hD j hd).1; omega
  · cases hc
  · obtain ⟨o, ho, hoc⟩ := h.uo j hc
    rw [(hD j hd).2] at ho; cases ho; cases hoc

/-- what holds at the head of pairSmall's loop -/
def PI (W0 w W : World) (s0 n ns : Nat) (sa ss : Option Addr) (cap cs d : Nat) (B : Nat → Bo) (v4 : Value) (M : List En) (ck : Nat) (LL : List (Nat × Nat)) (k m : Nat) (ds : List Deferred) (Ds : List Nat) (V : List Ce) (u : Value) (Q : List (Nat × Nat)) : Prop := k ≤ ns ∧ ns - k ≤ m ∧ ds.map (fun d => d.target) = Ds.map Target.collected ∧ Ds.Nodup ∧ (∀ D, D ∈ Ds → W0.heap.size ≤ D ∧ W.heap[D]? = some (.deferred (some []))) ∧ PSt W0 W s0 n sa cap d B (.slice ss ns cs) v4 M ck LL V V u Q [w.heap.size, w.heap.size + 1] ∧
  W.cell? ⟨w.heap.size, 0, none⟩ = some (.pointer (some ⟨s0 + 2, 0, none⟩)) ∧ W.heap[w.heap.size + 1]? = some (.cells #[.int .i64 0] 26) ∧ (∀ t, t < k → ∀ i, (nums (smB B d) n)[t]? = some i → ∀ c ∈ cellsL (spO d (B i)), c ∈ V)
theorem ps_I {W0 w W : World} {s0 n ns : Nat} {sa ss : Option Addr} {cap cs d : Nat} {B : Nat → Bo} {v4 : Value} {M : List En} {ck : Nat} {LL : List (Nat × Nat)} {k m : Nat} {ds : List Deferred} {Ds : List Nat} {V : List Ce} {u : Value} {Q : List (Nat × Nat)} {kk : Int} {y4 y5 y6 y7 y14 y15 y16 y17 y18 y19 y20 y21 y22 y23 y24 y25 y26 y27 y28 y29 y30 y31 y32 y33 y34 y35 y36 y37 y38 y39 y40 y41 y42 y43 y44 : Value} (hk : kk = (k : Int)) (h : PI W0 w W s0 n ns sa ss cap cs d B v4 M ck LL k m ds Ds V u Q) :
    ∃ (k : Nat) (ds' : List Deferred) (Ds : List Nat) (V : List Ce) (u : Value) (Q : List (Nat × Nat)) (u_ : Nat → Value), ({ tmps := #[.pointer (some ⟨s0 + 2, 0, none⟩), .pointer (some ⟨w.heap.size, 0, none⟩), .pointer (some ⟨w.heap.size + 1, 0, none⟩), undef, y4, y5, y6, y7, .pointer (some ⟨s0 + 2, 0, none⟩), .pointer (some ⟨s0 + 2, 0, none⟩), .pointer (some ⟨s0 + 2, 3, none⟩), .slice ss ns cs, .int .i64 (ns : Int), .int .i64 kk, y14, y15, y16, y17, y18, y19, y20, y21, y22, y23, y24, y25, y26, y27, y28, y29, y30, y31, y32, y33, y34, y35, y36, y37, y38, y39, y40, y41, y42, y43, y44], defers := ds } : Act) = { tmps := #[.pointer (some ⟨s0 + 2, 0, none⟩), .pointer (some ⟨w.heap.size, 0, none⟩), .pointer (some ⟨w.heap.size + 1, 0, none⟩), undef, u_ 4, u_ 5, u_ 6, u_ 7, .pointer (some ⟨s0 + 2, 0, none⟩), .pointer (some ⟨s0 + 2, 0, none⟩), .pointer (some ⟨s0 + 2, 3, none⟩), .slice ss ns cs, .int .i64 (ns : Int), .int .i64 (k : Int), u_ 14, u_ 15, u_ 16, u_ 17, u_ 18, u_ 19, u_ 20, u_ 21, u_ 22, u_ 23, u_ 24, u_ 25, u_ 26, u_ 27, u_ 28, u_ 29, u_ 30, u_ 31, u_ 32, u_ 33, u_ 34, u_ 35, u_ 36, u_ 37, u_ 38, u_ 39, u_ 40, u_ 41, u_ 42, u_ 43, u_ 44], defers := ds' } ∧ PI W0 w W s0 n ns sa ss cap cs d B v4 M ck LL k m ds' Ds V u Q := by
  subst hk
  exact ⟨k, ds, Ds, V, u, Q, fun i => match i with | 4 => y4 | 5 => y5 | 6 => y6 | 7 => y7 | 14 => y14 | 15 => y15 | 16 => y16 | 17 => y17 | 18 => y18 | 19 => y19 | 20 => y20 | 21 => y21 | 22 => y22 | 23 => y23 | 24 => y24 | 25 => y25 | 26 => y26 | 27 => y27 | 28 => y28 | 29 => y29 | 30 => y30 | 31 => y31 | 32 => y32 | 33 => y33 | 34 => y34 | 35 => y35 | 36 => y36 | 37 => y37 | 38 => y38 | 39 => y39 | 40 => y40 | 41 => y41 | 42 => y42 | 43 => y43 | 44 => y44 | _ => undef, rfl, h⟩
theorem oper_del {o : Oper} {A : Act} {w w' : World} {v u v' : Value} {K : Act → World → Prop} {C : Exit → Act → World → Prop} (s x : Operand) (ho : o.op = .call { callee := .builtin .delete, args := #[s, x], argTypes := #[58, 75] }) (hv : A.eval s = v) (hx : A.eval x = u)
    (hrun : (Builtin.delete_ #[58, 75] o.type #[v, u]).run Try.prog w = .ok v' w') (hK : K (A.put o.dst v') w') : Oper.wp Try.prog o A w K C := by
  unfold Oper.wp
  simp [execOp, ho, resolve, invoke, builtin, hv, hx, hrun, Result.andThen]
  exact hK

theorem cell_mp {W : World} {b o : Nat} {v : Value} {M : List En} {ck : Nat} (h : W.cell? ⟨b, o, none⟩ = some v) (hm : Mp W b M ck) : False := by
  unfold World.cell? at h
  simp only at h
  rw [show W.heap[b]? = _ from hm] at h
  cases h
set_option maxRecDepth 100000 in
set_option maxHeartbeats 16000000 in
theorem pairSmall_s (W0 : World) (s0 n cap d ns cs : Nat) (sa ss : Option Addr) (B : Nat → Bo) (v4 v5 : Value) (M : List En) (ck : Nat) (LL : List (Nat × Nat)) (w : World) (hL : LayS W0 s0 n sa cap (fun i => spO d (B i)) (fun i => mayO (B i)) n (.slice ss ns cs) v4 M ck (nums (smB B d) n) (nums (wdB B d) n) (grF B d n)) (hP : PSt W0 w s0 n sa cap d B (.slice ss ns cs) v4 M ck LL [] [] v5 [] []) (hBx : BoxN W0 W0.heap.size (fun k => k = s0 + 2 ∨ k = s0 + 1) sa n B) (hns : (nums (smB B d) n).length = ns) (hn : n ≤ 200) (hd : mayW d = true) (hLw : LL = wdL B (nums (wdB B d) n) (nums (smB B d) n) (nums (wdB B d) n).length) :
    Calls Try.prog 21 #[.pointer (some ⟨(s0 + 2), 0, none⟩)] w fun e w' => e = .returned (.int .i64 0) ∧ ∃ V u Q, PSt W0 w' s0 n sa cap d B (.slice ss ns cs) v4 M ck LL V V u Q [] ∧ (∀ i, i < n → smB B d i = true → ∀ c ∈ cellsL (spO d (B i)), c ∈ V) := by
  have HL : Hid (LayS W0 s0 n sa cap (fun i => spO d (B i)) (fun i => mayO (B i)) n (.slice ss ns cs) v4 M ck (nums (smB B d) n) (nums (wdB B d) n) (grF B d n)) := hL
  have HNS : Hid ((nums (smB B d) n).length = ns) := hns
  have HLW : Hid (LL = wdL B (nums (wdB B d) n) (nums (smB B d) n) (nums (wdB B d) n).length) := hLw
  have h00 := hL.sz
  have hBl0 := bl_alloc (bl_alloc (bl_refl w) #[.pointer (some ⟨(s0 + 2), 0, none⟩)] 53) #[.int .i64 0] 26
  have c3 := keep hBl0 hP.g6.c3
  have hP0 := ((hP.bel h00 hBl0).more (q := w.heap.size + 1) (by have := hP.sz; omega) (by simp) (fun e => by have := hP.ult _ e; omega)).more (q := w.heap.size) hP.sz (by simp; omega) (fun e => by have := hP.ult _ e; omega)
  have hz10 : ((w.alloc (.cells #[.pointer (some ⟨(s0 + 2), 0, none⟩)] 53)).alloc (.cells #[.int .i64 0] 26)).cell? ⟨w.heap.size, 0, none⟩ = some (.pointer (some ⟨s0 + 2, 0, none⟩)) := by simp
  have hz20 : ((w.alloc (.cells #[.pointer (some ⟨(s0 + 2), 0, none⟩)] 53)).alloc (.cells #[.int .i64 0] 26)).heap[w.heap.size + 1]? = some (.cells #[.int .i64 0] 26) := by
    have := World.alloc_heap_new (w.alloc (.cells #[.pointer (some ⟨(s0 + 2), 0, none⟩)] 53)) (.cells #[.int .i64 0] 26)
    rwa [World.size_alloc] at this
  clear hns hLw hL hBl0
  refine callsIn_wide (n := 9).1 ?_
  refine callsIn_of_wp_marks Try.func21 rfl trivial ?_ rfl
  simp only [Try.ntmps21, List.size_toArray, List.length_cons, List.length_nil, Nat.reduceAdd, Nat.reduceSub, Array.replicate_succ, Array.replicate_zero, List.push_toArray, List.append_toArray, List.nil_append, List.cons_append]
  gi_wp2
  refine wpIn_loop_ghost_k (fun m a W => ∃ (k : Nat) (ds : List Deferred) (Ds : List Nat) (V : List Ce) (u : Value) (Q : List (Nat × Nat)) (u_ : Nat → Value), a = { tmps := #[.pointer (some ⟨s0 + 2, 0, none⟩), .pointer (some ⟨w.heap.size, 0, none⟩), .pointer (some ⟨w.heap.size + 1, 0, none⟩), undef, u_ 4, u_ 5, u_ 6, u_ 7, .pointer (some ⟨s0 + 2, 0, none⟩), .pointer (some ⟨s0 + 2, 0, none⟩), .pointer (some ⟨s0 + 2, 3, none⟩), .slice ss ns cs, .int .i64 (ns : Int), .int .i64 (k : Int), u_ 14, u_ 15, u_ 16, u_ 17, u_ 18, u_ 19, u_ 20, u_ 21, u_ 22, u_ 23, u_ 24, u_ 25, u_ 26, u_ 27, u_ 28, u_ 29, u_ 30, u_ 31, u_ 32, u_ 33, u_ 34, u_ 35, u_ 36, u_ 37, u_ 38, u_ 39, u_ 40, u_ 41, u_ 42, u_ 43, u_ 44], defers := ds } ∧ PI W0 w W s0 n ns sa ss cap cs d B v4 M ck LL k m ds Ds V u Q) ns ?h0 ?round
  case h0 => exact ⟨0, [], [], [], v5, [], fun _ => undef, rfl, Nat.zero_le _, by omega, rfl, List.nodup_nil, fun D h => (by cases h), hP0, hz10, hz20, fun t ht => by omega⟩
  case round =>
    intro m a Wr hI J Kr hJ hKr
    obtain ⟨k, ds, Ds, V, u, Q, u_, rfl, hkn, hm, hds, hnd, hDm, hPk, hz1, hz2, hvis⟩ := hI
    clear hP0 hz10 hz20 c3
    by_cases hlt : k < ns
    · obtain ⟨i, hi⟩ : ∃ p, (nums (smB B d) n)[k]? = some p := ⟨_, List.getElem?_eq_getElem (by rw [HNS.out]; exact hlt)⟩
      have him := nums_mem.1 (List.mem_of_getElem? hi)
      have hsmi := smB_parts him.2
      have hin : i < n := him.1
      have hiz : (i : Int) < (n : Int) := by omega
      have hns200 : ns ≤ 200 := by rw [← HNS.out]; exact Nat.le_trans (nums_len _ _) hn
      have hkz : (k : Int) < (ns : Int) := by omega
      have hwk : IntKind.wrap .i64 ((k : Int) + 1) = (k : Int) + 1 := by rw [IntKind.wrap_i64]; omega
      have hsp := sp_in hd hsmi.1
      obtain ⟨g3, hss, hg3, hg3l, hIs⟩ : ∃ g3, ss = some ⟨g3, 0, none⟩ ∧ s0 + 4 ≤ g3 ∧ g3 < W0.heap.size ∧ Is W0 g3 0 (nums (smB B d) n) := by
        have ho3 := HL.out.o3
        rw [HNS.out] at ho3
        rcases own_split ho3 (by decide) with ⟨h0, _⟩ | ⟨_, g, cp, e, hb, hg, _⟩
        · omega
        · cases e
          exact ⟨g, rfl, hb, hg, own_is (by rw [HNS.out] at *; exact ho3)⟩
      subst hss
      have hst := hPk.st
      have z0 : Wr.cell? ⟨g3, k, none⟩ = some (.int .i64 (i : Int)) := by
        have := hIs k i hi
        rw [Nat.zero_add] at this
        exact (hst.cell hg3l (by omega)).trans this
      obtain ⟨k0, k1, k2, k3⟩ := HL.out.spS i hin hsmi.1
      have h00 := HL.out.sz
      replace k0 := (hst.cell (k := s0) (by omega) (by omega)).trans k0
      replace k1 := (hst.cell (k := s0) (by omega) (by omega)).trans k1
      replace k2 := (hst.cell (k := s0) (by omega) (by omega)).trans k2
      replace k3 := (hst.cell (k := s0) (by omega) (by omega)).trans k3
      have c1 := hPk.g6.c1
      have z1 := hz1
      gi_wp2
      refine ⟨trivial, (callsIn_wide.2 (cells_s (spO d (B i)) _)).mono ?_⟩
      rintro e w12 ⟨rfl, hw12⟩
      have hB12 : Bel Wr w12 := by rw [hw12]; exact bl_alloc (bl_refl _) _ _
      obtain ⟨q, hq⟩ : ∃ q, q = Wr.heap.size := ⟨_, rfl⟩
      rw [← hq]
      have hq12 : SpB w12 q (spO d (B i)) := by
        rw [hw12, hq]
        exact ⟨by rw [World.cell?_alloc_new]; rfl, by rw [World.cell?_alloc_new]; rfl, by rw [World.cell?_alloc_new]; rfl, by rw [World.cell?_alloc_new]; rfl⟩
      have hql : q < w12.heap.size := World.block_lt_of_cell? _ _ hq12.1
      have hP12 := (hPk.bel h00 hB12).more (q := q) (by have := hPk.sz; omega) hql (fun e => by have := hPk.ult q e; omega)
      have hfar := hP12.far
      have z112 := keep hB12 hz1
      have z212 := (hB12.1.block _ (Array.getElem?_eq_some_iff.1 hz2).1).trans hz2
      have zD12 : ∀ D, D ∈ Ds → w12.heap[D]? = some (.deferred (some [])) := fun D hD => (hB12.1.block _ (Array.getElem?_eq_some_iff.1 (hDm D hD).2).1).trans (hDm D hD).2
      have hD0 := hDm
      have hDl : ∀ D ∈ Ds, D < w12.heap.size := fun D h => (Array.getElem?_eq_some_iff.1 (zD12 D h)).1
      clear hw12 hB12 hq c1 k0 k1 k2 k3 z0 z1 hIs hst hPk hz1 hz2 hDm
      gi_wp2
      refine range_ce (po := 5) (by decide) rfl (enters_of Try.func61 (by kernel_rfl) rfl) q 16 (cellsL (spO d (B i))) (cells_stops _ q (spO d (B i)) hsp w12 hq12 hql 16 (small_16 hsmi.2)) hql
        (fun pre W => (∃ u Q, PSt W0 W s0 n sa cap d B (.slice (some ⟨g3, 0, none⟩) ns cs) v4 M ck LL (V ++ pre) (V ++ pre) u Q [q, w.heap.size, w.heap.size + 1]) ∧ W.cell? ⟨w.heap.size, 0, none⟩ = some (.pointer (some ⟨s0 + 2, 0, none⟩)) ∧ W.heap[w.heap.size + 1]? = some (.cells #[.int .i64 0] 26) ∧ (∀ D, D ∈ Ds → W.heap[D]? = some (.deferred (some [])))) ?hI ?h0 ?hassign ?hbody ?hdone
      case hI =>
        rintro pre X Y row ⟨⟨u, Q, hR⟩, y1, y2, yD⟩ hg hr
        have hbk : ∀ j, j < X.heap.size → j < w12.heap.size → Y.heap[j]? = X.heap[j]? := fun j hj hjA => hg.block j hj (fun e => by have := (hr j e.symm).1; omega)
        exact ⟨⟨u, Q, hR.grown h00 hg hP12.sz (fun x hx => (hfar x hx).2.1) hr⟩, (heap_cell_eq (hbk _ (World.block_lt_of_cell? _ _ y1) (World.block_lt_of_cell? _ _ z112)) 0).trans y1, (hbk _ (Array.getElem?_eq_some_iff.1 y2).1 (Array.getElem?_eq_some_iff.1 z212).1).trans y2, fun D hD => (hbk D (Array.getElem?_eq_some_iff.1 (yD D hD)).1 (hDl D hD)).trans (yD D hD)⟩
      case h0 => exact ⟨⟨u, Q, by rw [List.append_nil]; exact hP12⟩, z112, z212, zD12⟩
      case hassign =>
        rintro l pre x W K ⟨⟨u, Q, hR⟩, y1, y2, yD⟩ hK
        simp only [List.setIfInBounds_toArray, List.set_cons_zero, List.set_cons_succ] at hK ⊢
        unfold ceV at hK ⊢
        gi_wp2
        have hbx : Bel W (W.alloc (.cells #[.int .i64 x.1, .int .i64 x.2] 75)) := bl_alloc (bl_refl _) _ _
        have hql2 : q < W.heap.size := (hR.far q (by simp)).2.1
        exact hK W.heap.size _ (KeepsFrom.of_bel hbx) (fun o => hbx.1.cell (p := ⟨q, o, none⟩) hql2) ⟨⟨u, Q, hR.bel h00 hbx⟩, keep hbx y1, (hbx.1.block _ (Array.getElem?_eq_some_iff.1 y2).1).trans y2, fun D hD => (hbx.1.block _ (Array.getElem?_eq_some_iff.1 (yD D hD)).1).trans (yD D hD)⟩ (by rw [World.cell?_alloc_new]; rfl) (by rw [World.cell?_alloc_new]; rfl)
      case hbody =>
        rintro l pre c bx wr ⟨⟨u, Q, hPs⟩, z1, z2, zD⟩ x0 x1 hlen
        simp only [List.setIfInBounds_toArray, List.set_cons_zero, List.set_cons_succ]
        have c2 := hPs.g6.c2
        obtain ⟨sr, rc, hiv, hmr0, hrm, hRw⟩ := hPs.look HL.out hn c
        have hRn : ∀ k ∈ outF (grF B d n) (V ++ pre) c, k < n ∧ mayO (B k) = true := fun k hk => by
          unfold outF at hk
          split at hk
          · cases hk
          · have h1 := nums_mem.1 (mem_grF.1 hk).1
            exact ⟨h1.1, (smB_parts h1.2).1⟩
        have hml : (outF (grF B d n) (V ++ pre) c).length ≤ 200 := by
          unfold outF
          split
          · simp
          · exact Nat.le_trans (nums_len _ _) hn
        obtain ⟨mm, hmm⟩ : ∃ mm, (outF (grF B d n) (V ++ pre) c).length = mm := ⟨_, rfl⟩
        rw [hmm] at hiv hmr0 hml
        have HM : Hid ((outF (grF B d n) (V ++ pre) c).length = mm) := hmm
        have hmr := hmr0
        have hm200 := hml
        clear hmm hmr0 hml
        gi_wp2
        refine wpIn_region_inv l _ 7 rfl (fun L s W => (∀ j, j < 7 → L j = true → (fun j v => match j with | 0 => v = .pointer (some ⟨s0 + 2, 0, none⟩) | 1 => v = .pointer (some ⟨s0 + 2, 0, none⟩) | 2 => v = .pointer (some ⟨s0 + 2, 2, none⟩) | 3 => v = .map (some (s0 + 1)) | 4 => v = ceV c | 5 => v = .slice sr mm rc | 6 => v = .slice sr mm rc | _ => True) j (s j)) ∧ (Bel wr W)) ?A_w6 (by kernel_rfl) (by kernel_rfl) ?hA_w6 ?h0_w6 ?hq_w6 ?hJ_w6 ?ht_w6
        case hA_w6 =>
          intro s
          simp only [putL, dstO, Act.put, List.getElem?_toArray, List.getElem?_cons_zero, List.getElem?_cons_succ, Option.bind_some, List.setIfInBounds_toArray, List.set_cons_zero, List.set_cons_succ, if_true]
          all_goals exact rfl
        case h0_w6 => exact ⟨fun j _ h => (by cases h), bl_drew (bl_refl _)⟩
        case hJ_w6 =>
          intro L L' s W h hj
          refine ⟨fun j hj2 hl => hj.1 j hj2 ((h j hj2).trans hl), ?_⟩
          have hj2 := hj.2
          exact hj2
        case hq_w6 =>
          intro i o hi ho L s W hLi hd hsh hj K hK
          obtain ⟨hV, hW⟩ := hj
          rcases (show i = 0 ∨ i = 1 ∨ i = 2 ∨ i = 3 ∨ i = 4 ∨ i = 5 ∨ i = 6 by omega) with rfl | rfl | rfl | rfl | rfl | rfl | rfl
          · cases ho
            simp only [Act.put, List.setIfInBounds_toArray, List.set_cons_zero, List.set_cons_succ] at hK
            have t0 := keep hW z1
            go_simp
            all_goals first | with_reducible exact hK.out _ _ ⟨val_upd (VAL := (fun j v => match j with | 0 => v = .pointer (some ⟨s0 + 2, 0, none⟩) | 1 => v = .pointer (some ⟨s0 + 2, 0, none⟩) | 2 => v = .pointer (some ⟨s0 + 2, 2, none⟩) | 3 => v = .map (some (s0 + 1)) | 4 => v = ceV c | 5 => v = .slice sr mm rc | 6 => v = .slice sr mm rc | _ => True)) hV rfl, hW⟩ | exact hK.out _ _ ⟨val_upd (VAL := (fun j v => match j with | 0 => v = .pointer (some ⟨s0 + 2, 0, none⟩) | 1 => v = .pointer (some ⟨s0 + 2, 0, none⟩) | 2 => v = .pointer (some ⟨s0 + 2, 2, none⟩) | 3 => v = .map (some (s0 + 1)) | 4 => v = ceV c | 5 => v = .slice sr mm rc | 6 => v = .slice sr mm rc | _ => True)) hV rfl, hW⟩
          · cases ho
            have e0 : s 0 = _ := hV 0 (by decide) (hd 0 (by kernel_rfl))
            simp only [e0] at hK ⊢
            simp only [Act.put, List.setIfInBounds_toArray, List.set_cons_zero, List.set_cons_succ] at hK
            go_simp
            all_goals first | with_reducible exact hK.out _ _ ⟨val_upd (VAL := (fun j v => match j with | 0 => v = .pointer (some ⟨s0 + 2, 0, none⟩) | 1 => v = .pointer (some ⟨s0 + 2, 0, none⟩) | 2 => v = .pointer (some ⟨s0 + 2, 2, none⟩) | 3 => v = .map (some (s0 + 1)) | 4 => v = ceV c | 5 => v = .slice sr mm rc | 6 => v = .slice sr mm rc | _ => True)) hV rfl, hW⟩ | exact hK.out _ _ ⟨val_upd (VAL := (fun j v => match j with | 0 => v = .pointer (some ⟨s0 + 2, 0, none⟩) | 1 => v = .pointer (some ⟨s0 + 2, 0, none⟩) | 2 => v = .pointer (some ⟨s0 + 2, 2, none⟩) | 3 => v = .map (some (s0 + 1)) | 4 => v = ceV c | 5 => v = .slice sr mm rc | 6 => v = .slice sr mm rc | _ => True)) hV rfl, hW⟩
          · cases ho
            have e1 : s 1 = _ := hV 1 (by decide) (hd 1 (by kernel_rfl))
            simp only [e1] at hK ⊢
            simp only [Act.put, List.setIfInBounds_toArray, List.set_cons_zero, List.set_cons_succ] at hK
            go_simp
            all_goals first | with_reducible exact hK.out _ _ ⟨val_upd (VAL := (fun j v => match j with | 0 => v = .pointer (some ⟨s0 + 2, 0, none⟩) | 1 => v = .pointer (some ⟨s0 + 2, 0, none⟩) | 2 => v = .pointer (some ⟨s0 + 2, 2, none⟩) | 3 => v = .map (some (s0 + 1)) | 4 => v = ceV c | 5 => v = .slice sr mm rc | 6 => v = .slice sr mm rc | _ => True)) hV rfl, hW⟩ | exact hK.out _ _ ⟨val_upd (VAL := (fun j v => match j with | 0 => v = .pointer (some ⟨s0 + 2, 0, none⟩) | 1 => v = .pointer (some ⟨s0 + 2, 0, none⟩) | 2 => v = .pointer (some ⟨s0 + 2, 2, none⟩) | 3 => v = .map (some (s0 + 1)) | 4 => v = ceV c | 5 => v = .slice sr mm rc | 6 => v = .slice sr mm rc | _ => True)) hV rfl, hW⟩
          · cases ho
            have e2 : s 2 = _ := hV 2 (by decide) (hd 2 (by kernel_rfl))
            simp only [e2] at hK ⊢
            simp only [Act.put, List.setIfInBounds_toArray, List.set_cons_zero, List.set_cons_succ] at hK
            have t0 := keep hW c2
            go_simp
            all_goals first | with_reducible exact hK.out _ _ ⟨val_upd (VAL := (fun j v => match j with | 0 => v = .pointer (some ⟨s0 + 2, 0, none⟩) | 1 => v = .pointer (some ⟨s0 + 2, 0, none⟩) | 2 => v = .pointer (some ⟨s0 + 2, 2, none⟩) | 3 => v = .map (some (s0 + 1)) | 4 => v = ceV c | 5 => v = .slice sr mm rc | 6 => v = .slice sr mm rc | _ => True)) hV rfl, hW⟩ | exact hK.out _ _ ⟨val_upd (VAL := (fun j v => match j with | 0 => v = .pointer (some ⟨s0 + 2, 0, none⟩) | 1 => v = .pointer (some ⟨s0 + 2, 0, none⟩) | 2 => v = .pointer (some ⟨s0 + 2, 2, none⟩) | 3 => v = .map (some (s0 + 1)) | 4 => v = ceV c | 5 => v = .slice sr mm rc | 6 => v = .slice sr mm rc | _ => True)) hV rfl, hW⟩
          · cases ho
            simp only [Act.put, List.setIfInBounds_toArray, List.set_cons_zero, List.set_cons_succ] at hK
            have t0 := keep hW x0
            have t1 := keep hW x1
            go_simp
            all_goals first | with_reducible exact hK.out _ _ ⟨val_upd (VAL := (fun j v => match j with | 0 => v = .pointer (some ⟨s0 + 2, 0, none⟩) | 1 => v = .pointer (some ⟨s0 + 2, 0, none⟩) | 2 => v = .pointer (some ⟨s0 + 2, 2, none⟩) | 3 => v = .map (some (s0 + 1)) | 4 => v = ceV c | 5 => v = .slice sr mm rc | 6 => v = .slice sr mm rc | _ => True)) hV rfl, hW⟩ | exact hK.out _ _ ⟨val_upd (VAL := (fun j v => match j with | 0 => v = .pointer (some ⟨s0 + 2, 0, none⟩) | 1 => v = .pointer (some ⟨s0 + 2, 0, none⟩) | 2 => v = .pointer (some ⟨s0 + 2, 2, none⟩) | 3 => v = .map (some (s0 + 1)) | 4 => v = ceV c | 5 => v = .slice sr mm rc | 6 => v = .slice sr mm rc | _ => True)) hV rfl, hW⟩
          · cases ho
            simp only [Act.put, List.setIfInBounds_toArray, List.set_cons_zero, List.set_cons_succ] at hK
            have e3 : s 3 = _ := hV 3 (by decide) (hd 3 (by kernel_rfl))
            have e4 : s 4 = _ := hV 4 (by decide) (hd 4 (by kernel_rfl))
            simp only [e3, e4] at hK ⊢
            have hrun := lookup_ce (P := Try.prog) key_p Try.underlying58 (zero_li W) (hPs.bel h00 hW).mp c
            rw [hiv] at hrun
            go_simp
            exact hK.out _ _ ⟨val_upd (VAL := (fun j v => match j with | 0 => v = .pointer (some ⟨s0 + 2, 0, none⟩) | 1 => v = .pointer (some ⟨s0 + 2, 0, none⟩) | 2 => v = .pointer (some ⟨s0 + 2, 2, none⟩) | 3 => v = .map (some (s0 + 1)) | 4 => v = ceV c | 5 => v = .slice sr mm rc | 6 => v = .slice sr mm rc | _ => True)) hV rfl, hW⟩
          · cases ho
            have e5 : s 5 = _ := hV 5 (by decide) (hd 5 (by kernel_rfl))
            simp only [e5] at hK ⊢
            simp only [Act.put, List.setIfInBounds_toArray, List.set_cons_zero, List.set_cons_succ] at hK
            go_simp
            all_goals first | with_reducible exact hK.out _ _ ⟨val_upd (VAL := (fun j v => match j with | 0 => v = .pointer (some ⟨s0 + 2, 0, none⟩) | 1 => v = .pointer (some ⟨s0 + 2, 0, none⟩) | 2 => v = .pointer (some ⟨s0 + 2, 2, none⟩) | 3 => v = .map (some (s0 + 1)) | 4 => v = ceV c | 5 => v = .slice sr mm rc | 6 => v = .slice sr mm rc | _ => True)) hV rfl, hW⟩ | exact hK.out _ _ ⟨val_upd (VAL := (fun j v => match j with | 0 => v = .pointer (some ⟨s0 + 2, 0, none⟩) | 1 => v = .pointer (some ⟨s0 + 2, 0, none⟩) | 2 => v = .pointer (some ⟨s0 + 2, 2, none⟩) | 3 => v = .map (some (s0 + 1)) | 4 => v = ceV c | 5 => v = .slice sr mm rc | 6 => v = .slice sr mm rc | _ => True)) hV rfl, hW⟩
        case ht_w6 =>
          intro s W hj
          obtain ⟨hV, hW⟩ := hj
          have e0 : s 0 = _ := hV 0 (by decide) rfl
          have e1 : s 1 = _ := hV 1 (by decide) rfl
          have e2 : s 2 = _ := hV 2 (by decide) rfl
          have e3 : s 3 = _ := hV 3 (by decide) rfl
          have e4 : s 4 = _ := hV 4 (by decide) rfl
          have e5 : s 5 = _ := hV 5 (by decide) rfl
          have e6 : s 6 = _ := hV 6 (by decide) rfl
          simp only [e0, e1, e2, e3, e4, e5, e6]
          clear hV e0 e1 e2 e3 e4 e5 e6
          have hW6 := hW
          clear hW
          have hPs6 := hPs.bel h00 hW6
          have z16 := keep hW6 z1
          have z26 := (hW6.1.block _ (Array.getElem?_eq_some_iff.1 z2).1).trans z2
          have zD6 : ∀ D, D ∈ Ds → W.heap[D]? = some (.deferred (some [])) := fun D hD => (hW6.1.block _ (Array.getElem?_eq_some_iff.1 (zD D hD)).1).trans (zD D hD)
          have x06 := keep hW6 x0
          have x16 := keep hW6 x1
          have hkf6 : KeepsFrom w12.heap.size wr W := KeepsFrom.of_bel hW6
          have hkq6 : KpQ q wr W := fun o => hW6.1.cell (p := ⟨q, o, none⟩) (hPs.far q (by simp)).2.1
          clear hPs z1 z2 zD x0 x1 c2 hW6
          obtain ⟨ws, hws⟩ : ∃ x, x = W := ⟨_, rfl⟩
          rw [← hws] at hPs6 z16 z26 zD6 x06 x16 hkf6 hkq6 ⊢
          clear hws
          have hPs := hPs6
          have z1 := z16
          have z2 := z26
          have zD := zD6
          have x0 := x06
          have x1 := x16
          have c2 := hPs.g6.c2
          clear hPs6 z16 z26 zD6 x06 x16
          gi_wp2
          refine wpIn_region_inv l _ 6 rfl (fun L s W => (∀ j, j < 6 → L j = true → (fun j v => match j with | 0 => v = .pointer (some ⟨s0 + 2, 0, none⟩) | 1 => v = .pointer (some ⟨s0 + 2, 0, none⟩) | 2 => v = .pointer (some ⟨s0 + 2, 2, none⟩) | 3 => v = .map (some (s0 + 1)) | 4 => v = ceV c | 5 => True | _ => True) j (s j)) ∧ ((L 5 = false → Bel ws W) ∧ (L 5 = true → PSt W0 W s0 n sa cap d B (.slice (some ⟨g3, 0, none⟩) ns cs) v4 M ck LL (V ++ pre) (V ++ pre ++ [c]) u Q [q, w.heap.size, w.heap.size + 1] ∧ (∀ j, j ≠ s0 + 1 → j < ws.heap.size → W.heap[j]? = ws.heap[j]?) ∧ ws.heap.size ≤ W.heap.size))) ?A_w7 (by kernel_rfl) (by kernel_rfl) ?hA_w7 ?h0_w7 ?hq_w7 ?hJ_w7 ?ht_w7
          case hA_w7 =>
            intro s
            simp only [putL, dstO, Act.put, List.getElem?_toArray, List.getElem?_cons_zero, List.getElem?_cons_succ, Option.bind_some, List.setIfInBounds_toArray, List.set_cons_zero, List.set_cons_succ, if_true]
            all_goals exact rfl
          case h0_w7 => exact ⟨fun j _ h => (by cases h), ⟨fun _ => bl_drew (bl_refl _), fun h => (by cases h)⟩⟩
          case hJ_w7 =>
            intro L L' s W h hj
            refine ⟨fun j hj2 hl => hj.1 j hj2 ((h j hj2).trans hl), ?_⟩
            have hj2 := hj.2
            rw [h 5 (by decide)] at hj2
            exact hj2
          case hq_w7 =>
            intro i o hi ho L s W hLi hd hsh hj K hK
            obtain ⟨hV, hW⟩ := hj
            rcases (show i = 0 ∨ i = 1 ∨ i = 2 ∨ i = 3 ∨ i = 4 ∨ i = 5 by omega) with rfl | rfl | rfl | rfl | rfl | rfl
            · cases ho
              simp only [Act.put, List.setIfInBounds_toArray, List.set_cons_zero, List.set_cons_succ] at hK
              have h5 := not_yet hsh (k := 5) hLi (by decide) (by kernel_rfl) rfl
              have bW := hW.1 h5
              have t0 := keep bW z1
              go_simp
              all_goals first | with_reducible exact hK.out _ _ ⟨val_upd (VAL := (fun j v => match j with | 0 => v = .pointer (some ⟨s0 + 2, 0, none⟩) | 1 => v = .pointer (some ⟨s0 + 2, 0, none⟩) | 2 => v = .pointer (some ⟨s0 + 2, 2, none⟩) | 3 => v = .map (some (s0 + 1)) | 4 => v = ceV c | 5 => True | _ => True)) hV rfl, hW⟩ | exact hK.out _ _ ⟨val_upd (VAL := (fun j v => match j with | 0 => v = .pointer (some ⟨s0 + 2, 0, none⟩) | 1 => v = .pointer (some ⟨s0 + 2, 0, none⟩) | 2 => v = .pointer (some ⟨s0 + 2, 2, none⟩) | 3 => v = .map (some (s0 + 1)) | 4 => v = ceV c | 5 => True | _ => True)) hV rfl, hW⟩
            · cases ho
              have e0 : s 0 = _ := hV 0 (by decide) (hd 0 (by kernel_rfl))
              simp only [e0] at hK ⊢
              simp only [Act.put, List.setIfInBounds_toArray, List.set_cons_zero, List.set_cons_succ] at hK
              go_simp
              all_goals first | with_reducible exact hK.out _ _ ⟨val_upd (VAL := (fun j v => match j with | 0 => v = .pointer (some ⟨s0 + 2, 0, none⟩) | 1 => v = .pointer (some ⟨s0 + 2, 0, none⟩) | 2 => v = .pointer (some ⟨s0 + 2, 2, none⟩) | 3 => v = .map (some (s0 + 1)) | 4 => v = ceV c | 5 => True | _ => True)) hV rfl, hW⟩ | exact hK.out _ _ ⟨val_upd (VAL := (fun j v => match j with | 0 => v = .pointer (some ⟨s0 + 2, 0, none⟩) | 1 => v = .pointer (some ⟨s0 + 2, 0, none⟩) | 2 => v = .pointer (some ⟨s0 + 2, 2, none⟩) | 3 => v = .map (some (s0 + 1)) | 4 => v = ceV c | 5 => True | _ => True)) hV rfl, hW⟩
            · cases ho
              have e1 : s 1 = _ := hV 1 (by decide) (hd 1 (by kernel_rfl))
              simp only [e1] at hK ⊢
              simp only [Act.put, List.setIfInBounds_toArray, List.set_cons_zero, List.set_cons_succ] at hK
              go_simp
              all_goals first | with_reducible exact hK.out _ _ ⟨val_upd (VAL := (fun j v => match j with | 0 => v = .pointer (some ⟨s0 + 2, 0, none⟩) | 1 => v = .pointer (some ⟨s0 + 2, 0, none⟩) | 2 => v = .pointer (some ⟨s0 + 2, 2, none⟩) | 3 => v = .map (some (s0 + 1)) | 4 => v = ceV c | 5 => True | _ => True)) hV rfl, hW⟩ | exact hK.out _ _ ⟨val_upd (VAL := (fun j v => match j with | 0 => v = .pointer (some ⟨s0 + 2, 0, none⟩) | 1 => v = .pointer (some ⟨s0 + 2, 0, none⟩) | 2 => v = .pointer (some ⟨s0 + 2, 2, none⟩) | 3 => v = .map (some (s0 + 1)) | 4 => v = ceV c | 5 => True | _ => True)) hV rfl, hW⟩
            · cases ho
              have e2 : s 2 = _ := hV 2 (by decide) (hd 2 (by kernel_rfl))
              simp only [e2] at hK ⊢
              simp only [Act.put, List.setIfInBounds_toArray, List.set_cons_zero, List.set_cons_succ] at hK
              have h5 := not_yet hsh (k := 5) hLi (by decide) (by kernel_rfl) rfl
              have bW := hW.1 h5
              have t0 := keep bW c2
              go_simp
              all_goals first | with_reducible exact hK.out _ _ ⟨val_upd (VAL := (fun j v => match j with | 0 => v = .pointer (some ⟨s0 + 2, 0, none⟩) | 1 => v = .pointer (some ⟨s0 + 2, 0, none⟩) | 2 => v = .pointer (some ⟨s0 + 2, 2, none⟩) | 3 => v = .map (some (s0 + 1)) | 4 => v = ceV c | 5 => True | _ => True)) hV rfl, hW⟩ | exact hK.out _ _ ⟨val_upd (VAL := (fun j v => match j with | 0 => v = .pointer (some ⟨s0 + 2, 0, none⟩) | 1 => v = .pointer (some ⟨s0 + 2, 0, none⟩) | 2 => v = .pointer (some ⟨s0 + 2, 2, none⟩) | 3 => v = .map (some (s0 + 1)) | 4 => v = ceV c | 5 => True | _ => True)) hV rfl, hW⟩
            · cases ho
              simp only [Act.put, List.setIfInBounds_toArray, List.set_cons_zero, List.set_cons_succ] at hK
              have h5 := not_yet hsh (k := 5) hLi (by decide) (by kernel_rfl) rfl
              have bW := hW.1 h5
              have t0 := keep bW x0
              have t1 := keep bW x1
              go_simp
              all_goals first | with_reducible exact hK.out _ _ ⟨val_upd (VAL := (fun j v => match j with | 0 => v = .pointer (some ⟨s0 + 2, 0, none⟩) | 1 => v = .pointer (some ⟨s0 + 2, 0, none⟩) | 2 => v = .pointer (some ⟨s0 + 2, 2, none⟩) | 3 => v = .map (some (s0 + 1)) | 4 => v = ceV c | 5 => True | _ => True)) hV rfl, hW⟩ | exact hK.out _ _ ⟨val_upd (VAL := (fun j v => match j with | 0 => v = .pointer (some ⟨s0 + 2, 0, none⟩) | 1 => v = .pointer (some ⟨s0 + 2, 0, none⟩) | 2 => v = .pointer (some ⟨s0 + 2, 2, none⟩) | 3 => v = .map (some (s0 + 1)) | 4 => v = ceV c | 5 => True | _ => True)) hV rfl, hW⟩
            · cases ho
              simp only [Act.put, List.setIfInBounds_toArray, List.set_cons_zero, List.set_cons_succ] at hK
              have bW := hW.1 hLi
              clear hW
              have e3 : s 3 = _ := hV 3 (by decide) (hd 3 (by kernel_rfl))
              have e4 : s 4 = _ := hV 4 (by decide) (hd 4 (by kernel_rfl))
              simp only [e3, e4] at hK ⊢
              have hPW := hPs.bel h00 bW
              have hrun := delete_ce (P := Try.prog) (ty := 0) (kt := 75) key_p Try.underlying58 hPW.mp c
              obtain ⟨hP2, hk2⟩ := hPW.dele h00 HL.out.keys c
              have hP2_sz : W.heap.size ≤ (W.putObj (s0 + 1) (.map ((match ixM c (outM M (V ++ pre)) with | some j => (outM M (V ++ pre)).eraseIdx j | none => outM M (V ++ pre)).map mkE).toArray ck)).heap.size := by simp [World.putObj]
              refine oper_del _ _ rfl rfl rfl hrun ?_
              exact hK.out undef _ ⟨val_upd (VAL := (fun j v => match j with | 0 => v = .pointer (some ⟨s0 + 2, 0, none⟩) | 1 => v = .pointer (some ⟨s0 + 2, 0, none⟩) | 2 => v = .pointer (some ⟨s0 + 2, 2, none⟩) | 3 => v = .map (some (s0 + 1)) | 4 => v = ceV c | 5 => True | _ => True)) hV trivial, fun h => (by simp [updL] at h), fun _ => ⟨hP2, fun j hj hl => (hk2 j hj).trans (bW.1.block j hl), Nat.le_trans bW.size hP2_sz⟩⟩
          case ht_w7 =>
            intro s W hj
            obtain ⟨hV, hW⟩ := hj
            have e0 : s 0 = _ := hV 0 (by decide) rfl
            have e1 : s 1 = _ := hV 1 (by decide) rfl
            have e2 : s 2 = _ := hV 2 (by decide) rfl
            have e3 : s 3 = _ := hV 3 (by decide) rfl
            have e4 : s 4 = _ := hV 4 (by decide) rfl
            simp only [e0, e1, e2, e3, e4]
            clear hV e0 e1 e2 e3 e4
            obtain ⟨hP7, hk7, hs7⟩ := hW.2 rfl
            clear hW
            obtain ⟨w8, hw8⟩ : ∃ x, x = W := ⟨_, rfl⟩
            rw [← hw8] at hP7 hk7 hs7 ⊢
            clear hw8
            have hb1l : w.heap.size < ws.heap.size := World.block_lt_of_cell? _ _ z1
            have hbxl : bx < ws.heap.size := World.block_lt_of_cell? _ _ x0
            have hbxm : bx ≠ s0 + 1 := fun e => cell_mp x0 (by rw [e]; exact hPs.mp)
            have hs00 := hPs.sz
            have hWw := hP.sz
            have z18 := (heap_cell_eq (hk7 w.heap.size (by omega) hb1l) 0).trans z1
            have x08 := (heap_cell_eq (hk7 bx hbxm hbxl) 0).trans x0
            have x18 := (heap_cell_eq (hk7 bx hbxm hbxl) 1).trans x1
            have hN8 : W0.heap.size ≤ w8.heap.size := hP7.sz
            have hB8 : BoxN w8 W0.heap.size (· = s0 + 2) sa n B := (hBx.sta hP7.st).mono (fun k hk => .inl hk)
            have hS8 : SpS w8 s0 (fun i => spO d (B i)) (fun i => mayO (B i)) n := HL.out.spS.sta hP7.st (by omega) (by omega)
            have hR8 : RowN w8 W0.heap.size (· = s0 + 2) sr (outF (grF B d n) (V ++ pre) c) := (hRw.sta hP7.st).mono (fun k hk => .inl hk)
            have hlen8 := both_len (hP7.q.step hd c) hn
            rw [← HLW.out, ← List.append_assoc] at hlen8
            have ha1 : s0 + 2 < W0.heap.size := by omega
            have ha2 : s0 < W0.heap.size := by omega
            have ha3 : ¬ s0 = s0 + 2 := by omega
            rw [HM.out] at hlen8
            have hlen9 : ((LL ++ Q) ++ ccL B (fun i => spO d (B i)) c (outF (grF B d n) (V ++ pre) c) mm).length ≤ 65536 := by omega
            gi_wp2
            refine ⟨trivial, (CallsIn.inRound l (callsIn_wide.2 (pairCell_s (s0 + 2) W0.heap.size mm rc n cap s0 sa sr B (fun i => spO d (B i)) (fun i => mayO (B i)) c (outF (grF B d n) (V ++ pre) c) (LL ++ Q) (.map (some (s0 + 1))) (.slice (some ⟨g3, 0, none⟩) ns cs) v4 u w8 hP7.g6 ha1 hN8 ha2 ha3 hB8 hS8 hR8 HM.out hm200 hRn hmr hrm hP7.ow hlen9 hP7.ult))).mono ?_⟩
            rintro e w9 ⟨rfl, u', hg9, hO9, hM9, hl9, hz9⟩
            rw [← HM.out] at hO9 hz9
            obtain ⟨hP9, hX9, hkf9⟩ := hP7.told h00 hd hg9 hO9 hM9 hz9
            gi_wp2
            have h12 := hP12.sz
            have hkf : KeepsFrom w12.heap.size ws w9 := ⟨Nat.le_trans hs7 hkf9.size, fun j o hj ho hc => hkf9.same j o (by omega) ((hk7 j (by omega) (Array.getElem?_eq_some_iff.1 ho).1).trans ho) hc⟩
            have hXk : ∀ x ∈ [q, w.heap.size, w.heap.size + 1], w9.heap[x]? = ws.heap[x]? := fun x hx => (hX9 x hx).trans (hk7 x (by have := (hPs.far x hx).1; omega) (hPs.far x hx).2.1)
            refine ⟨hkf6.trans hkf, fun o => (heap_cell_eq (hXk q (by simp)) o).trans (hkq6 o), ⟨u', _, by rw [← List.append_assoc]; exact hP9⟩, (heap_cell_eq (hXk w.heap.size (by simp)) 0).trans z1, (hXk (w.heap.size + 1) (by simp)).trans z2, fun D hD => ?_⟩
            exact hkf9.same D _ (hD0 D hD).1 ((hk7 D (by have := (hD0 D hD).1; omega) (Array.getElem?_eq_some_iff.1 (zD D hD)).1).trans (zD D hD)) rfl
      case hdone =>
        rintro D W hDw ⟨⟨u, Q, hR⟩, y1, y2, yD⟩ hdd
        gi_wp2
        exact Handed.intro (ns - (k + 1)) (by omega) (hJ _ _ _ (ps_I (Ds := D :: Ds) (V := V ++ cellsL (spO d (B i))) (u := u) (Q := Q) (Int.natCast_succ k).symm ⟨by omega, by omega, by simp [hds], List.nodup_cons.2 ⟨fun h => by have := hDl D h; omega, hnd⟩, fun E hE => by
          rcases List.mem_cons.1 hE with rfl | hE
          · exact ⟨by have := hP12.sz; omega, hdd⟩
          · exact ⟨(hD0 E hE).1, yD E hE⟩, hR.less (X' := [w.heap.size, w.heap.size + 1]) (fun x hx => by simp only [List.mem_cons, List.not_mem_nil, or_false] at hx ⊢; exact .inr hx), y1, y2, fun t ht i' hi' c hc => by
          rcases Nat.lt_or_ge t k with h' | h'
          · exact List.mem_append_left _ (hvis t h' i' hi' c hc)
          · have e : t = k := by omega
            rw [e, hi] at hi'
            cases hi'
            exact List.mem_append_right _ hc⟩))
    · have hk : k = ns := by omega
      have hkz : ¬ (k : Int) < (ns : Int) := by omega
      have y2 : Wr.cell? ⟨w.heap.size + 1, 0, none⟩ = some (.int .i64 0) := heap_cell hz2 rfl
      have f2 : Wr.frozen? ⟨w.heap.size + 1, 0, none⟩ = false := heap_frozen hz2
      gi_wp2
      obtain ⟨hb2a, hb2b, hb2c⟩ := hPk.far (w.heap.size + 1) (by simp)
      have hz0 := (Below.refl 0 Wr).setCell (p := ⟨w.heap.size + 1, 0, none⟩) (Nat.zero_le _) (.int .i64 0)
      have hzb : ∀ j, j ≠ w.heap.size + 1 → (Wr.setCell ⟨w.heap.size + 1, 0, none⟩ (.int .i64 0)).heap[j]? = Wr.heap[j]? := fun j hj => Below.heap_setCell Wr _ _ j hj
      have hPz := (hPk.less (X' := []) (fun x hx => by cases hx)).keep h00 hz0.os hz0.tape hz0.output hz0.size (fun j hj hn hc => hzb j (fun e => by
        rcases hc with hc | hc | hc
        · omega
        · cases hc
        · rw [e] at hc; exact hb2c hc)) ((hzb _ (by omega)).trans hPk.mp)
      have hDz : ∀ D, D ∈ Ds → W0.heap.size ≤ D ∧ (Wr.setCell ⟨w.heap.size + 1, 0, none⟩ (.int .i64 0)).heap[D]? = some (.deferred (some [])) := fun D hD => ⟨(hDm D hD).1, (hzb D (fun e => by have := (hDm D hD).2; rw [e, hz2] at this; cases this)).trans (hDm D hD).2⟩
      have hcz : (Wr.setCell ⟨w.heap.size + 1, 0, none⟩ (.int .i64 0)).cell? ⟨w.heap.size + 1, 0, none⟩ = some (.int .i64 0) := World.cell?_setCell_same _ _ _ y2
      have hnb : ¬ (w.heap.size + 1) ∈ Ds := fun h => by have := (hDm _ h).2; rw [hz2] at this; cases this
      refine leaves_marks ds Ds _ hds hnd (fun D h => (hDz D h).2) (fun W' hS => ?_)
      have hc9 := (heap_cell_eq (hS.block _ hnb) 0).trans hcz
      refine ⟨.int .i64 0, ?_, rfl, V, ⟨u, Q, hPz.shut h00 hS hDz⟩, fun i hi hsm a b hab => ?_⟩
      · simp [results, Try.results21, go_sem, hc9]
      · obtain ⟨t, ht, et⟩ := List.getElem_of_mem (nums_mem.2 ⟨hi, hsm⟩)
        exact hvis t (by rw [hk, ← HNS.out]; exact ht) i (by rw [List.getElem?_eq_getElem ht, et]) (a, b) hab

end Go.Proofs.Ytekhnolpgoejdab
