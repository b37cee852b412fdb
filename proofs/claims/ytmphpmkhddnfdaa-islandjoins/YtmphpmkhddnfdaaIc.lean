/-
  What each function of package island that Join reaches answers, and what the reference of its chapter answers: one contract a function.
-/
import Derived.Test.YtmphpmkhddnfdaaIb
import Derived.Test.YtmphpmkhddnfdaaChecked
import Derived.Below
import Derived.OwnWalk
import Derived.Laws.AppendOwn
import Derived.Lib.SliceRun
import Derived.Laws.MakeOwn
import Derived.WalkKit
import Derived.WalkLawsBesides
import Derived.WalkSpells
import Derived.ProofKit
import Derived.OpenShut
import Derived.Deep.RegionHeld3
import Derived.Deep.MidRow
import Derived.Laws.EntriesVeiled
import Derived.BigQuiet
import Derived.ChangeKeysEq
namespace Go.Proofs.Ytmphpmkhddnfdaa
open Go.ChangeShapes Go.WideShapes Go.ChangeAt Go.RowKit
set_option linter.unusedVariables false
set_option linter.unusedSimpArgs false

def isZ : Value → Bool
  | .int .i64 0 => true
  | _ => false
theorem isZ_is {v : Value} (h : isZ v = true) : v = .int .i64 0 := by
  unfold isZ at h
  split at h
  · rfl
  · cases h
def RepN (l : List Value) (n : Nat) : Prop := l = List.replicate n (.int .i64 0)
theorem rep_app {l m : List Value} {a b : Nat} (h : RepN l a) (k : RepN m b) : RepN (l.append m) (a + b) := by
  unfold RepN at *
  subst h k
  exact List.replicate_append_replicate
theorem rep_leaf {l : List Value} (h : l.all isZ = true) : RepN l l.length := by
  unfold RepN
  exact List.eq_replicate_iff.2 ⟨rfl, fun b hb => isZ_is (List.all_eq_true.1 h b hb)⟩
theorem rep_done {l : List Value} {n k : Nat} (h : RepN l n) (e : n = k) : l.toArray = Array.replicate k (.int .i64 0) := by
  unfold RepN at h
  rw [h, e, List.toArray_replicate]
set_option maxRecDepth 100000 in
theorem zero_ints : Try.zeroCells110 = Array.replicate 16384 (.int .i64 0) := by
  unfold Try.zeroCells110
  refine rep_done (n := ?n) ?h ?e
  rotate_left 1
  · repeat (first | (with_reducible refine rep_app ?_ ?_) | (with_reducible refine rep_leaf ?_; kernel_rfl))
  · kernel_rfl
theorem make_int (n : Nat) (hn : n ≤ 16384) (W : World) : (Instr.makeSlice 63 (.int .i64 n) (.int .i64 n)).run Try.prog W = .ok (.slice (some ⟨W.heap.size, 0, none⟩) n n) (W.alloc (.cells (Array.replicate n (.int .i64 0)) 3)) := by
  have h := run_make (P := Try.prog) W 63 3 Try.t3 (.int .i64 0) Try.underlying63 (by kernel_rfl) (by kernel_rfl) .i64 .i64 n n (by omega) (by omega) (by show ((8 : Nat) : Int) * n ≤ _; omega) (by omega)
  have e : madeCells (Value.int .i64 0).cells (n * 1) = Array.replicate n (.int .i64 0) := by
    apply Array.ext
    · simp [madeCells]
    · intro i h1 h2
      simp [madeCells, Value.cells, Nat.mod_one]
  rw [← e]
  exact h
set_option maxRecDepth 100000 in
set_option maxHeartbeats 4000000 in
theorem leasts_w (n : Nat) (lb lo m lc_ : Nat) (ls : Option Addr) (A B : Nat → Int) (w : World) (hls : m = 0 ∨ ls = some ⟨lb, lo, none⟩) (hlc : m ≤ lc_) (hlm : lc_ ≤ maxLen) (hl : Prs w lb lo m A B) (hn : n ≤ 16384) (hm : m ≤ 65536) (hv : ∀ i, i < m → 0 ≤ A i ∧ A i < n ∧ 0 ≤ B i ∧ B i < n) : Calls Try.prog 33 #[.int .i64 (n : Int), .slice ls m lc_] w fun e w' => ∃ g f, w.heap.size ≤ g ∧ IntM w' g n (nI f) ∧ Lst n m A B f ∧ g < w'.heap.size ∧ e = .returned (.slice (some ⟨g, 0, none⟩) n n) ∧ Bel w w' := by
  unfold maxLen at hlm
  have B0 : Bel w (w.alloc (.cells Try.zeroCells110 110)) := bl_alloc (bl_refl w) _ _
  have hb0 : IntM (w.alloc (.cells Try.zeroCells110 110)) (w.heap.size) 16384 (fun _ => 0) := ⟨fun i hi => by rw [World.cell?_alloc_new, zero_ints]; simp [hi], fun i hi => fz_new i⟩
  have hz0 : w.heap.size < (w.alloc (.cells Try.zeroCells110 110)).heap.size := by rw [World.size_alloc]; omega
  go_enter Try.func33, Try.ntmps33
  repeat (first | go_values | go_skip | go_guarded | go_step | go_upon | go_back | dsimp only)
  go_loopw [15] (fun i wr => ∃ k : Nat, k ≤ n ∧ i = .int .i64 k ∧ Bel w wr ∧ w.heap.size < wr.heap.size ∧ ∃ X, IntM wr (w.heap.size) 16384 X ∧ ∀ j, j < k → X j = (j : Int)) (fun i _ => n - (intOf i).toNat)
  case atStart => exact ⟨0, by omega, rfl, B0, hz0, _, hb0, fun j hj => by omega⟩
  case round =>
    obtain ⟨k, hk, rfl, hB, hz, X, hX, hXk⟩ := hrel
    clear hb0
    by_cases hlt : k < n
    · have hkI : (k : Int) < (n : Int) := by omega
      have hkA : (k : Int) < 16384 := by omega
      have hkN : k < 16384 := by omega
      have ka := hX.at_ k hkN
      have fa := hX.fr k hkN
      repeat (first | go_values | go_skip | go_guarded | go_step | go_upon | go_back | dsimp only)
      refine ⟨⟨k + 1, by omega, by go_num, bel_set1 hB (Nat.le_refl _), by rw [size_set]; exact hz, updI X k k, hX.set hkN, fun j hj => ?_⟩, by simp [intOf]; omega⟩
      unfold updI
      by_cases e : j = k
      · subst e; rw [if_pos rfl]
      · rw [if_neg e]; exact hXk j (by omega)
    · have hkn : k = n := by omega
      subst hkn
      obtain ⟨w1, rfl⟩ : ∃ w1, w1 = wr := ⟨_, rfl⟩
      have hP1 : IntM w1 (w.heap.size) k (nI (fun i => i)) := ⟨fun i hi => by rw [show nI (fun i => i) i = X i from (hXk i hi).symm]; exact hX.at_ i (by omega), fun i hi => hX.fr i (by omega)⟩
      clear hX hXk
      repeat (first | go_values | go_skip | go_guarded | go_step | go_upon | go_back | dsimp only)
      go_loopw [25] (fun i wr => ∃ q : Nat, q ≤ m ∧ i = .int .i64 q ∧ Bel w wr ∧ w1.heap.size < wr.heap.size ∧ wr.cell? ⟨w1.heap.size, 0, none⟩ = some (.func (.func 48) #[] #[.pointer (some ⟨w.heap.size, 0, none⟩), .pointer (some ⟨w1.heap.size, 0, none⟩)]) ∧ ∃ P, IntM wr (w.heap.size) k (nI P) ∧ (∀ j, P j ≤ j) ∧ (∀ x, x < k → Con A B m x (rt P x)) ∧ ∀ j, j < q → rt P (A j).toNat = rt P (B j).toNat) (fun i _ => m - (intOf i).toNat)
      case atStart => exact ⟨0, by omega, rfl, bl_alloc hB _ _, by rw [World.size_alloc]; omega, (rng_new w1 [(.func (.func 48) #[] #[.pointer (some ⟨w.heap.size, 0, none⟩), .pointer (some ⟨w1.heap.size, 0, none⟩)])] 111) 0 _ rfl, _, hP1.bel (bl_alloc (bl_refl _) _ _), fun j => Nat.le_refl j, fun x hx => by rw [rt_self (by omega)]; exact .refl x, fun j hj => by omega⟩
      case round =>
        obtain ⟨q, hq, rfl, hB2, hz2, hcf, P, hP, hle, hcon, heq⟩ := hrel
        clear hP1 hlt hk
        have hn : k ≤ 16384 := hn
        have hne9 : w1.heap.size ∉ [w.heap.size] := by simp; omega
        by_cases hlt : q < m
        · have e9 : ls = some ⟨lb, lo, none⟩ := by rcases hls with h | h; omega; exact h
          subst e9
          have hkI : (q : Int) < (m : Int) := by omega
          obtain ⟨v1, v2, v3, v4⟩ := hv q hlt
          obtain ⟨x, hx⟩ : ∃ x : Nat, A q = (x : Int) := ⟨(A q).toNat, by omega⟩
          obtain ⟨y, hy⟩ : ∃ y : Nat, B q = (y : Int) := ⟨(B q).toNat, by omega⟩
          have hxn : x < k := by omega
          have hyn : y < k := by omega
          have hld : wr.rangeAt lb (lo + q * 2) [.int .i64 (x : Int), .int .i64 (y : Int)] := by have h := (hl.bel hB2) q hlt; rwa [hx, hy] at h
          have hX9 : (wr.alloc (.cells #[.int .i64 0, .int .i64 0] 67)).there wr.heap.size 0 2 := there_new wr [.int .i64 0, .int .i64 0] 67
          have hY : ((wr.alloc (.cells #[.int .i64 0, .int .i64 0] 67)).setCells wr.heap.size 0 [.int .i64 (x : Int), .int .i64 (y : Int)]).rangeAt wr.heap.size 0 [.int .i64 (x : Int), .int .i64 (y : Int)] := World.rangeAt_setCells_same _ _ _ _ hX9
          have hb9 : Bel wr ((wr.alloc (.cells #[.int .i64 0, .int .i64 0] 67)).setCells wr.heap.size 0 [.int .i64 (x : Int), .int .i64 (y : Int)]) := bel_setsJ _ _ (bl_alloc (bl_refl _) _ _) (Nat.le_refl _)
          have y0 : ((wr.alloc (.cells #[.int .i64 0, .int .i64 0] 67)).setCells wr.heap.size 0 [.int .i64 (x : Int), .int .i64 (y : Int)]).cell? ⟨wr.heap.size, 0, none⟩ = some (.int .i64 (x : Int)) := hY 0 _ rfl
          have y1 : ((wr.alloc (.cells #[.int .i64 0, .int .i64 0] 67)).setCells wr.heap.size 0 [.int .i64 (x : Int), .int .i64 (y : Int)]).cell? ⟨wr.heap.size, 1, none⟩ = some (.int .i64 (y : Int)) := hY 1 _ rfl
          have cf9 := keep hb9 hcf
          have hP9 := hP.bel hb9
          have hnec : wr.heap.size ∉ [w.heap.size] := by simp; omega
          have hcfd : (wr.heap.size : Nat) < ((wr.alloc (.cells #[.int .i64 0, .int .i64 0] 67)).setCells wr.heap.size 0 [.int .i64 (x : Int), .int .i64 (y : Int)]).heap.size := by rw [sets_size, World.size_alloc]; omega
          repeat (first | ((with_reducible show Oper.wp _ { dst := _, op := Op.load 67 _, type := _, pos := _, after := _, guard := _ } _ _ _ _); refine wp_load_mid (P := Try.prog) 67 _ rfl _ _ rfl [.int .i64 (x : Int), .int .i64 (y : Int)] _ (by with_reducible assumption) Try.underlying67 rfl (by kernel_rfl) ?_; simp only [go_sem]) | ((with_reducible show Oper.wp _ { dst := _, op := Op.store 67 _ _, type := _, pos := _, after := _, guard := _ } _ _ _ _); refine wp_store_mid (P := Try.prog) 67 _ _ rfl (wr.heap.size) (0) #[.int .i64 (x : Int), .int .i64 (y : Int)] rfl rfl hX9 (by kernel_rfl) (by kernel_rfl) ?_; simp only [go_sem]) | go_values | go_skip | go_guarded | go_step | go_upon | go_back | dsimp only)
          refine wp_region_gen 10 rfl (fun iq v => match iq with | 0 => v = (.func (.func 48) #[] #[.pointer (some ⟨w.heap.size, 0, none⟩), .pointer (some ⟨w1.heap.size, 0, none⟩)]) | 1 => v = .pointer (some ⟨wr.heap.size, 0, none⟩) | 2 => v = .int .i64 (x : Int) | 3 => v = .int .i64 (rt P x : Int) | 4 => v = (.func (.func 48) #[] #[.pointer (some ⟨w.heap.size, 0, none⟩), .pointer (some ⟨w1.heap.size, 0, none⟩)]) | 5 => v = .pointer (some ⟨wr.heap.size, 1, none⟩) | 6 => v = .int .i64 (y : Int) | 7 => v = .int .i64 (rt P y : Int) | 8 => v = .int .i64 (rt P x : Int) | 9 => v = .int .i64 (rt P y : Int) | _ => False) (fun _ W => ∃ P', Pr ((wr.alloc (.cells #[.int .i64 0, .int .i64 0] 67)).setCells wr.heap.size 0 [.int .i64 (x : Int), .int .i64 (y : Int)]) (w.heap.size) k P P' W) ?A_ln (by kernel_rfl) (by kernel_rfl) ?hA_ln ?h0_ln ?hG_ln ?hq_ln ?ht_ln
          case hA_ln =>
            intro s
            simp only [putL, dstO, Act.put, List.getElem?_toArray, List.getElem?_cons_zero, List.getElem?_cons_succ, Option.bind_some, Option.bind_none, List.setIfInBounds_toArray, List.set_cons_zero, List.set_cons_succ, if_true]
            all_goals exact rfl
          case h0_ln => exact ⟨P, ⟨hP9.drew, hle, fun _ => rfl, Fx.drew _⟩⟩
          case hG_ln => exact fun L L' W hL h => h
          case hq_ln =>
            intro iq o hi ho L s W hLd hsh hs hg hLi K hK
            obtain ⟨P', hPr⟩ := id hg
            have cf := hPr.fx.cell hne9 cf9
            have z0 := hPr.fx.cell hnec y0
            have z1 := hPr.fx.cell hnec y1
            rcases (show iq = 0 ∨ iq = 1 ∨ iq = 2 ∨ iq = 3 ∨ iq = 4 ∨ iq = 5 ∨ iq = 6 ∨ iq = 7 ∨ iq = 8 ∨ iq = 9 by omega) with rfl | rfl | rfl | rfl | rfl | rfl | rfl | rfl | rfl | rfl
            · cases ho
              simp only [Act.put, List.setIfInBounds_toArray, List.set_cons_zero, List.set_cons_succ] at hK
              clear hs
              go_simp
              all_goals first | with_reducible exact hK.out _ _ rfl hg | exact hK.out _ _ rfl hg
            · cases ho
              simp only [Act.put, List.setIfInBounds_toArray, List.set_cons_zero, List.set_cons_succ] at hK
              clear hs
              go_simp
              all_goals first | with_reducible exact hK.out _ _ rfl hg | exact hK.out _ _ rfl hg
            · cases ho
              have e1 : s 1 = _ := hs 1 (by decide) (by kernel_rfl)
              simp only [e1] at hK ⊢
              simp only [Act.put, List.setIfInBounds_toArray, List.set_cons_zero, List.set_cons_succ] at hK
              clear hs
              go_simp
              all_goals first | with_reducible exact hK.out _ _ rfl hg | exact hK.out _ _ rfl hg
            · cases ho
              have e0 : s 0 = _ := hs 0 (by decide) (by kernel_rfl)
              have e2 : s 2 = _ := hs 2 (by decide) (by kernel_rfl)
              simp only [e0, e2] at hK ⊢
              simp only [Act.put, List.setIfInBounds_toArray, List.set_cons_zero, List.set_cons_succ] at hK
              clear hs
              go_simp
              all_goals (try go_wp2_with (first | (go_at_call 48; (with_reducible refine (lst_w k (w.heap.size) (w1.heap.size) hne9 hn x P' W hxn hPr.at_ hPr.le cf).mono ?_); rintro e w' ⟨rfl, P2, g2⟩)))
              all_goals first | exact hK.out _ _ (by rw [hPr.rt x]) ⟨P2, ⟨g2.at_, g2.le, fun j => (g2.rt j).trans (hPr.rt j), hPr.fx.trans g2.fx⟩⟩
            · cases ho
              simp only [Act.put, List.setIfInBounds_toArray, List.set_cons_zero, List.set_cons_succ] at hK
              clear hs
              go_simp
              all_goals first | with_reducible exact hK.out _ _ rfl hg | exact hK.out _ _ rfl hg
            · cases ho
              simp only [Act.put, List.setIfInBounds_toArray, List.set_cons_zero, List.set_cons_succ] at hK
              clear hs
              go_simp
              all_goals first | with_reducible exact hK.out _ _ rfl hg | exact hK.out _ _ rfl hg
            · cases ho
              have e5 : s 5 = _ := hs 5 (by decide) (by kernel_rfl)
              simp only [e5] at hK ⊢
              simp only [Act.put, List.setIfInBounds_toArray, List.set_cons_zero, List.set_cons_succ] at hK
              clear hs
              go_simp
              all_goals first | with_reducible exact hK.out _ _ rfl hg | exact hK.out _ _ rfl hg
            · cases ho
              have e4 : s 4 = _ := hs 4 (by decide) (by kernel_rfl)
              have e6 : s 6 = _ := hs 6 (by decide) (by kernel_rfl)
              simp only [e4, e6] at hK ⊢
              simp only [Act.put, List.setIfInBounds_toArray, List.set_cons_zero, List.set_cons_succ] at hK
              clear hs
              go_simp
              all_goals (try go_wp2_with (first | (go_at_call 48; (with_reducible refine (lst_w k (w.heap.size) (w1.heap.size) hne9 hn y P' W hyn hPr.at_ hPr.le cf).mono ?_); rintro e w' ⟨rfl, P2, g2⟩)))
              all_goals first | exact hK.out _ _ (by rw [hPr.rt y]) ⟨P2, ⟨g2.at_, g2.le, fun j => (g2.rt j).trans (hPr.rt j), hPr.fx.trans g2.fx⟩⟩
            · cases ho
              have e3 : s 3 = _ := hs 3 (by decide) (by kernel_rfl)
              simp only [e3] at hK ⊢
              simp only [Act.put, List.setIfInBounds_toArray, List.set_cons_zero, List.set_cons_succ] at hK
              clear hs
              go_simp
              all_goals first | with_reducible exact hK.out _ _ rfl hg | exact hK.out _ _ rfl hg
            · cases ho
              have e7 : s 7 = _ := hs 7 (by decide) (by kernel_rfl)
              simp only [e7] at hK ⊢
              simp only [Act.put, List.setIfInBounds_toArray, List.set_cons_zero, List.set_cons_succ] at hK
              clear hs
              go_simp
              all_goals first | with_reducible exact hK.out _ _ rfl hg | exact hK.out _ _ rfl hg
          case ht_ln =>
            intro s hs W hg
            have e0 : s 0 = _ := hs 0 (by decide)
            have e1 : s 1 = _ := hs 1 (by decide)
            have e2 : s 2 = _ := hs 2 (by decide)
            have e3 : s 3 = _ := hs 3 (by decide)
            have e4 : s 4 = _ := hs 4 (by decide)
            have e5 : s 5 = _ := hs 5 (by decide)
            have e6 : s 6 = _ := hs 6 (by decide)
            have e7 : s 7 = _ := hs 7 (by decide)
            have e8 : s 8 = _ := hs 8 (by decide)
            have e9 : s 9 = _ := hs 9 (by decide)
            obtain ⟨P', hPr⟩ := hg
            have cxy : Con A B m (rt P x) (rt P y) := ((hcon x hxn).symm.trans (.link hlt hx hy)).trans (hcon y hyn)
            have root : ∀ z, ¬ P' (rt P z) < rt P z := fun z => by have := rt_root P' z; rwa [hPr.rt z] at this
            rcases Nat.lt_trichotomy (rt P x) (rt P y) with hxy | hxy | hxy
            · simp only [e8, e9]
              have rtU : ∀ z, rt (updN P' (rt P y) (rt P x)) z = if rt P z = rt P y then rt P x else rt P z := fun z => by rw [rt_join P' (rt P x) (rt P y) (by omega) (root y) (root x) z, hPr.rt z]
              have hlo : rt P x ≤ rt P y := by omega
              have hloI : (rt P x : Int) ≤ (rt P y : Int) := by omega
              have hh := Nat.lt_of_le_of_lt (rt_le P y) hyn
              have hhA : ((rt P y : Nat) : Int) < 16384 := by omega
              have hhN : rt P y < 16384 := by omega
              have ka := hPr.at_.at_ (rt P y) hh
              have fa := hPr.at_.fr (rt P y) hh
              repeat (first | go_values | go_skip | go_guarded | go_step | go_upon | go_back | dsimp only)
              refine ⟨⟨q + 1, by omega, by go_num, ?_, ?_, ?_, updN P' (rt P y) (rt P x), ?_, upd_le hPr.le hlo, fun z hz => ?_, fun j hj => ?_⟩, by simp [intOf]; omega⟩
              · exact bel_set1 (hPr.fx.bel (bl_trans hB2 hb9) (by simp)) (Nat.le_refl _)
              · rw [size_set]; have := hPr.fx.size; omega
              · rw [set_block (by omega)]; exact hPr.fx.cell hne9 cf9
              · rw [← nI_upd]; exact hPr.at_.set hh
              · rw [rtU z]
                split
                next h => exact ((hcon z hz).trans (by rw [h]; exact .refl _)).trans cxy.symm
                next h => exact hcon z hz
              · rw [rtU, rtU]
                rcases Nat.lt_or_ge j q with h | h
                · rw [heq j h]
                · have e : j = q := by omega
                  subst e
                  rw [hx, hy]
                  simp
            · rw [hxy] at e8
              simp only [e8, e9]
              have rtU : ∀ z, rt (updN P' (rt P y) (rt P y)) z = if rt P z = rt P y then rt P y else rt P z := fun z => by rw [rt_join P' (rt P y) (rt P y) (by omega) (root y) (root y) z, hPr.rt z]
              have hlo : rt P y ≤ rt P y := by omega
              have hloI : (rt P y : Int) ≤ (rt P y : Int) := by omega
              have hh := Nat.lt_of_le_of_lt (rt_le P y) hyn
              have hhA : ((rt P y : Nat) : Int) < 16384 := by omega
              have hhN : rt P y < 16384 := by omega
              have ka := hPr.at_.at_ (rt P y) hh
              have fa := hPr.at_.fr (rt P y) hh
              repeat (first | go_values | go_skip | go_guarded | go_step | go_upon | go_back | dsimp only)
              refine ⟨⟨q + 1, by omega, by go_num, ?_, ?_, ?_, updN P' (rt P y) (rt P y), ?_, upd_le hPr.le hlo, fun z hz => ?_, fun j hj => ?_⟩, by simp [intOf]; omega⟩
              · exact bel_set1 (hPr.fx.bel (bl_trans hB2 hb9) (by simp)) (Nat.le_refl _)
              · rw [size_set]; have := hPr.fx.size; omega
              · rw [set_block (by omega)]; exact hPr.fx.cell hne9 cf9
              · rw [← nI_upd]; exact hPr.at_.set hh
              · rw [rtU z]
                split
                next h => exact ((hcon z hz).trans (by rw [h]; exact .refl _)).trans (.refl _)
                next h => exact hcon z hz
              · rw [rtU, rtU]
                rcases Nat.lt_or_ge j q with h | h
                · rw [heq j h]
                · have e : j = q := by omega
                  subst e
                  rw [hx, hy]
                  simp [hxy]
            · simp only [e8, e9]
              have hxy2 : ¬ rt P x < rt P y := by omega
              have rtU : ∀ z, rt (updN P' (rt P x) (rt P y)) z = if rt P z = rt P x then rt P y else rt P z := fun z => by rw [rt_join P' (rt P y) (rt P x) (by omega) (root x) (root y) z, hPr.rt z]
              have hlo : rt P y ≤ rt P x := by omega
              have hloI : (rt P y : Int) ≤ (rt P x : Int) := by omega
              have hh := Nat.lt_of_le_of_lt (rt_le P x) hxn
              have hhA : ((rt P x : Nat) : Int) < 16384 := by omega
              have hhN : rt P x < 16384 := by omega
              have ka := hPr.at_.at_ (rt P x) hh
              have fa := hPr.at_.fr (rt P x) hh
              repeat (first | go_values | go_skip | go_guarded | go_step | go_upon | go_back | dsimp only)
              refine ⟨⟨q + 1, by omega, by go_num, ?_, ?_, ?_, updN P' (rt P x) (rt P y), ?_, upd_le hPr.le hlo, fun z hz => ?_, fun j hj => ?_⟩, by simp [intOf]; omega⟩
              · exact bel_set1 (hPr.fx.bel (bl_trans hB2 hb9) (by simp)) (Nat.le_refl _)
              · rw [size_set]; have := hPr.fx.size; omega
              · rw [set_block (by omega)]; exact hPr.fx.cell hne9 cf9
              · rw [← nI_upd]; exact hPr.at_.set hh
              · rw [rtU z]
                split
                next h => exact ((hcon z hz).trans (by rw [h]; exact .refl _)).trans cxy
                next h => exact hcon z hz
              · rw [rtU, rtU]
                rcases Nat.lt_or_ge j q with h | h
                · rw [heq j h]
                · have e : j = q := by omega
                  subst e
                  rw [hx, hy]
                  simp
        · have hqn : q = m := by omega
          subst hqn
          obtain ⟨w2, rfl⟩ : ∃ w2, w2 = wr := ⟨_, rfl⟩
          have hmk := make_int k hn w2
          have hLs : Lst k q A B (rt P) := ⟨fun i _ => rt_le P i, hcon, heq⟩
          have hb3 : Bel w2 (w2.alloc (.cells (Array.replicate k (.int .i64 0)) 3)) := bl_alloc (bl_refl _) _ _
          repeat (first | go_values | go_skip | go_guarded | go_step | go_upon | go_back | dsimp only)
          go_loopw [49] (fun i wr => ∃ z : Nat, z ≤ k ∧ i = .int .i64 z ∧ Bel w wr ∧ w2.heap.size < wr.heap.size ∧ wr.cell? ⟨w1.heap.size, 0, none⟩ = some (.func (.func 48) #[] #[.pointer (some ⟨w.heap.size, 0, none⟩), .pointer (some ⟨w1.heap.size, 0, none⟩)]) ∧ (∃ P', IntM wr (w.heap.size) k (nI P') ∧ (∀ j, P' j ≤ j) ∧ ∀ j, rt P' j = rt P j) ∧ ∃ X, IntM wr w2.heap.size k X ∧ ∀ j, j < z → X j = (rt P j : Int)) (fun i _ => k - (intOf i).toNat)
          case atStart => exact ⟨0, by omega, rfl, bl_trans hB2 hb3, by rw [World.size_alloc]; omega, keep hb3 hcf, ⟨P, hP.bel hb3, hle, fun _ => rfl⟩, fun _ => 0, ⟨fun i hi => by rw [World.cell?_alloc_new]; simp [hi], fun i hi => fz_new i⟩, fun j hj => by omega⟩
          case round =>
            obtain ⟨z, hzk, rfl, hB3, hz3, hcf3, ⟨P', hP', hle', hrt'⟩, X3, hX3, hXz⟩ := hrel
            by_cases hlt3 : z < k
            · have hkI : (z : Int) < (k : Int) := by omega
              have hne3 : w2.heap.size ∉ [w.heap.size] := by simp; omega
              repeat (first | (go_at_call 48; (with_reducible refine (lst_w k (w.heap.size) (w1.heap.size) hne9 hn z P' wr hlt3 hP' hle' hcf3).mono ?_); rintro e w' ⟨rfl, P2, g2⟩; rw [hrt' z]; have kz := (hX3.fx g2.fx hne3).at_ z hlt3; have fz := (hX3.fx g2.fx hne3).fr z hlt3) | go_values | go_skip | go_guarded | go_step | go_upon | go_back | dsimp only)
              refine ⟨⟨z + 1, by omega, by go_num, ?_, ?_, ?_, ⟨P2, ?_, g2.le, fun j => (g2.rt j).trans (hrt' j)⟩, updI X3 z (rt P z : Int), (hX3.fx g2.fx hne3).set hlt3, fun j hj => ?_⟩, by simp [intOf]; omega⟩
              · exact bel_set1 (g2.fx.bel hB3 (by simp)) (by omega)
              · rw [size_set]; have := g2.fx.size; omega
              · rw [set_block (by omega)]; exact g2.fx.cell hne9 hcf3
              · exact ⟨fun i hi => by rw [set_block (by omega)]; exact g2.at_.at_ i hi, fun i hi => by rw [World.frozen?_setCell]; exact g2.at_.fr i hi⟩
              · unfold updI
                by_cases e : j = z
                · subst e; rw [if_pos rfl]
                · rw [if_neg e]; exact hXz j (by omega)
            · have hzn : z = k := by omega
              subst hzn
              repeat (first | go_values | go_skip | go_guarded | go_step | go_upon | go_back | dsimp only)
              go_ret
              exact ⟨w2.heap.size, rt P, by omega, hX3.congr hXz, hLs, hz3, rfl, hB3⟩

end Go.Proofs.Ytmphpmkhddnfdaa
