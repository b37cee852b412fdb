/-
  What each function of package island that Join reaches answers, and what the reference of its chapter answers: one contract a function.
-/
import Derived.Test.YtmphpmkhddnfdaaIb
import Derived.Test.YtmphpmkhddnfdaaChecked
import Derived.Below
import Derived.OwnWalk
import Derived.Laws.AppendOwn
import Derived.Lib.SliceRun
import Derived.Laws.MakeOwn
import Derived.WalkKit
import Derived.WalkLawsBesides
import Derived.WalkSpells
import Derived.ProofKit
import Derived.OpenShut
import Derived.Deep.RegionHeld3
import Derived.Deep.MidRow
import Derived.Laws.EntriesVeiled
import Derived.BigQuiet
import Derived.ChangeKeysEq
namespace Go.Proofs.Ytmphpmkhddnfdaa
open Go.ChangeShapes Go.WideShapes Go.ChangeAt Go.RowKit
set_option linter.unusedVariables false
set_option linter.unusedSimpArgs false

def sumN (f : Nat → Nat) : Nat → Nat
  | 0 => 0
  | k + 1 => sumN f k + f k
theorem sum_congr {f h : Nat → Nat} : ∀ (n : Nat), (∀ i, i < n → f i = h i) → sumN f n = sumN h n
  | 0, _ => rfl
  | n + 1, e => by unfold sumN; rw [sum_congr n (fun i hi => e i (by omega)), e n (by omega)]
theorem sum_upd (f : Nat → Nat) (i v : Nat) : ∀ n, i < n → sumN (updN f i v) n + f i = sumN f n + v
  | 0, h => by omega
  | n + 1, h => by
    unfold sumN
    rcases Nat.lt_or_ge i n with h1 | h1
    · have := sum_upd f i v n h1
      rw [upd_ne (by omega)]; omega
    · have e : i = n := by omega
      subst e
      rw [upd_self, sum_congr (h := f) i (fun j hj => upd_ne (by omega))]; omega
theorem sum_lt {f : Nat → Nat} {i v n : Nat} (h : i < n) (hv : v < f i) : sumN (updN f i v) n < sumN f n := by have := sum_upd f i v n h; omega
theorem sum_le {f : Nat → Nat} {i v n : Nat} (h : i < n) (hv : v ≤ f i) : sumN (updN f i v) n ≤ sumN f n := by have := sum_upd f i v n h; omega
def cellN (w : World) (b i : Nat) : Nat := match w.cell? ⟨b, i, none⟩ with | some (.int _ v) => v.toNat | _ => 0
def boolN : Value → Nat
  | .bool true => 1
  | _ => 0
theorem sum_cell {w : World} {b n : Nat} {f : Nat → Nat} (h : IntM w b n (nI f)) : sumN (cellN w b) n = sumN f n := sum_congr n (fun i hi => by unfold cellN; rw [h.at_ i hi]; simp [nI])
theorem make_intR (n : Nat) (hn : n ≤ 16384) (W : World) : (Instr.makeSlice 63 (.int .i64 n) (.int .i64 n)).run Try.prog W = .ok (.slice (some ⟨W.heap.size, 0, none⟩) n n) (W.alloc (.cells (Array.replicate n (.int .i64 0)) 3)) := by
  have h := run_make (P := Try.prog) W 63 3 Try.t3 (.int .i64 0) Try.underlying63 (by kernel_rfl) (by kernel_rfl) .i64 .i64 n n (by omega) (by omega) (by show ((8 : Nat) : Int) * n ≤ _; omega) (by omega)
  have e : madeCells (Value.int .i64 0).cells (n * 1) = Array.replicate n (.int .i64 0) := by
    apply Array.ext
    · simp [madeCells]
    · intro i h1 h2
      simp [madeCells, Value.cells, Nat.mod_one]
  rw [← e]
  exact h
set_option maxRecDepth 100000 in
set_option maxHeartbeats 4000000 in
theorem least_w (n : Nat) (lb lo m lc_ : Nat) (ls : Option Addr) (A B : Nat → Int) (w : World) (hls : m = 0 ∨ ls = some ⟨lb, lo, none⟩) (hlc : m ≤ lc_) (hlm : lc_ ≤ maxLen) (hl : Prs w lb lo m A B) (hn : n ≤ 16384) (hm : m ≤ 65536) (hv : ∀ i, i < m → 0 ≤ A i ∧ A i < n ∧ 0 ≤ B i ∧ B i < n) : Calls Try.prog 35 #[.int .i64 (n : Int), .slice ls m lc_] w fun e w' => ∃ f, IntM w' w.heap.size n (nI f) ∧ Lst n m A B f ∧ w.heap.size < w'.heap.size ∧ e = .returned (.slice (some ⟨w.heap.size, 0, none⟩) n n) ∧ Bel w w' := by
  unfold maxLen at hlm
  have B0 : Bel w (w.alloc (.cells (Array.replicate n (.int .i64 0)) 3)) := bl_alloc (bl_refl w) _ _
  have hmk := make_intR n hn w
  have hb0 : IntM (w.alloc (.cells (Array.replicate n (.int .i64 0)) 3)) (w.heap.size) n (fun _ => 0) := ⟨fun i hi => by rw [World.cell?_alloc_new]; simp [hi], fun i hi => fz_new i⟩
  have hz0 : w.heap.size < (w.alloc (.cells (Array.replicate n (.int .i64 0)) 3)).heap.size := by rw [World.size_alloc]; omega
  go_enter Try.func35, Try.ntmps35
  repeat (first | go_values | go_skip | go_guarded | go_step | go_upon | go_back | dsimp only)
  go_loopw [6] (fun i wr => ∃ k : Nat, k ≤ n ∧ i = .int .i64 k ∧ Bel w wr ∧ w.heap.size < wr.heap.size ∧ ∃ X, IntM wr (w.heap.size) n X ∧ ∀ j, j < k → X j = (j : Int)) (fun i _ => n - (intOf i).toNat)
  case atStart => exact ⟨0, by omega, rfl, B0, hz0, _, hb0, fun j hj => by omega⟩
  case round =>
    obtain ⟨k, hk, rfl, hB, hz, X, hX, hXk⟩ := hrel
    clear hb0 hmk
    by_cases hlt : k < n
    · have hkI : (k : Int) < (n : Int) := by omega
      have ka := hX.at_ k hlt
      have fa := hX.fr k hlt
      repeat (first | go_values | go_skip | go_guarded | go_step | go_upon | go_back | dsimp only)
      refine ⟨⟨k + 1, by omega, by go_num, bel_set1 hB (Nat.le_refl _), by rw [size_set]; exact hz, updI X k k, hX.set hlt, fun j hj => ?_⟩, by simp [intOf]; omega⟩
      unfold updI
      by_cases e : j = k
      · subst e; rw [if_pos rfl]
      · rw [if_neg e]; exact hXk j (by omega)
    · have hkn : k = n := by omega
      subst hkn
      obtain ⟨w1, rfl⟩ : ∃ w1, w1 = wr := ⟨_, rfl⟩
      obtain ⟨n, rfl⟩ : ∃ n, n = k := ⟨_, rfl⟩
      have hP1 : IntM w1 (w.heap.size) n (nI (fun i => i)) := ⟨fun i hi => by rw [show nI (fun i => i) i = X i from (hXk i hi).symm]; exact hX.at_ i hi, hX.fr⟩
      clear hX hXk hlt
      repeat (first | go_values | go_skip | go_guarded | go_step | go_upon | go_back | dsimp only)
      go_loopw [7] (fun c wr => ∃ (b : Bool) (f : Nat → Nat), c = .bool b ∧ Bel w wr ∧ w.heap.size < wr.heap.size ∧ IntM wr (w.heap.size) n (nI f) ∧ (∀ j, f j ≤ j) ∧ (∀ j, j < n → Con A B m j (f j)) ∧ (b = false → ∀ q, q < m → f (A q).toNat = f (B q).toNat)) (fun c wr => 2 * sumN (cellN wr (w.heap.size)) n + boolN c)
      case atStart => exact ⟨true, fun i => i, rfl, hB, hz, hP1, fun j => Nat.le_refl j, fun j _ => .refl j, fun h => by cases h⟩
      case round =>
        obtain ⟨b, f0, rfl, hB0, hz1, hI0, hle0, hcon0, hfix⟩ := hrel
        clear hP1
        cases b
        · repeat (first | go_values | go_skip | go_guarded | go_step | go_upon | go_back | dsimp only)
          go_ret
          exact ⟨f0, hI0, ⟨fun i hi => hle0 i, hcon0, hfix rfl⟩, hz1, rfl, hB0⟩
        · clear hfix
          obtain ⟨w2, rfl⟩ : ∃ w2, w2 = wr := ⟨_, rfl⟩
          rw [sum_cell hI0]
          repeat (first | go_values | go_skip | go_guarded | go_step | go_upon | go_back | dsimp only)
          go_loopw [8, 7] (fun i c wr => ∃ q : Nat, q ≤ m ∧ i = .int .i64 q ∧ Bel w wr ∧ w.heap.size < wr.heap.size ∧ ∃ (b : Bool) (f : Nat → Nat), c = .bool b ∧ IntM wr (w.heap.size) n (nI f) ∧ (∀ j, f j ≤ j) ∧ (∀ j, j < n → Con A B m j (f j)) ∧ (b = true → sumN f n < sumN f0 n) ∧ (b = false → f = f0 ∧ ∀ j, j < q → f0 (A j).toNat = f0 (B j).toNat)) (fun i _ _ => m - (intOf i).toNat)
          case atStart => exact ⟨0, by omega, rfl, hB0, hz1, false, f0, rfl, hI0, hle0, hcon0, fun h => (by cases h), fun _ => ⟨rfl, fun j hj => by omega⟩⟩
          case round =>
            obtain ⟨q, hq, rfl, hB, hz2, b, f, rfl, hI, hle, hcon, hbt, hbf⟩ := hrel
            have hsl : sumN f n ≤ sumN f0 n := by
              cases b
              · rw [(hbf rfl).1]; exact Nat.le_refl _
              · exact Nat.le_of_lt (hbt rfl)
            by_cases hlt : q < m
            · have e9 : ls = some ⟨lb, lo, none⟩ := by rcases hls with h | h; omega; exact h
              subst e9
              have hkI : (q : Int) < (m : Int) := by omega
              obtain ⟨v1, v2, v3, v4⟩ := hv q hlt
              obtain ⟨x, hx⟩ : ∃ x : Nat, A q = (x : Int) := ⟨(A q).toNat, by omega⟩
              obtain ⟨y, hy⟩ : ∃ y : Nat, B q = (y : Int) := ⟨(B q).toNat, by omega⟩
              have hxn : x < n := by omega
              have hyn : y < n := by omega
              have hld : wr.rangeAt lb (lo + q * 2) [.int .i64 (x : Int), .int .i64 (y : Int)] := by have h := (hl.bel hB) q hlt; rwa [hx, hy] at h
              have hx1 : wr.cell? ⟨lb, lo + q * 2, none⟩ = some (.int .i64 (x : Int)) := hld 0 _ rfl
              have hy1 : wr.cell? ⟨lb, lo + q * 2 + 1, none⟩ = some (.int .i64 (y : Int)) := hld 1 _ rfl
              have kx0 : wr.cell? ⟨w.heap.size, x, none⟩ = some (.int .i64 (f x : Int)) := hI.at_ x hxn
              have ky0 : wr.cell? ⟨w.heap.size, y, none⟩ = some (.int .i64 (f y : Int)) := hI.at_ y hyn
              have hxI : (x : Int) < (n : Int) := by omega
              have hyI : (y : Int) < (n : Int) := by omega
              repeat (first | go_values | go_skip | go_guarded | go_step | go_upon | go_back | dsimp only)
              refine wp_region_gen 12 rfl (fun iq v => match iq with | 0 => v = .slice (some ⟨lb, lo, none⟩) m lc_ | 1 => v = .int .i64 (q : Int) | 2 => v = .pointer (some ⟨lb, lo + q * 2, none⟩) | 3 => v = .pointer (some ⟨lb, lo + q * 2, none⟩) | 4 => v = .int .i64 (x : Int) | 5 => v = .slice (some ⟨lb, lo, none⟩) m lc_ | 6 => v = .int .i64 (q : Int) | 7 => v = .pointer (some ⟨lb, lo + q * 2, none⟩) | 8 => v = .pointer (some ⟨lb, lo + q * 2 + 1, none⟩) | 9 => v = .int .i64 (y : Int) | 10 => v = .int .i64 (x : Int) | 11 => v = .int .i64 (y : Int) | _ => False) (fun _ W => Bel wr W) ?A_ra (by kernel_rfl) (by kernel_rfl) ?hA_ra ?h0_ra ?hG_ra ?hq_ra ?ht_ra
              case hA_ra =>
                intro s
                simp only [putL, dstO, Act.put, List.getElem?_toArray, List.getElem?_cons_zero, List.getElem?_cons_succ, Option.bind_some, Option.bind_none, List.setIfInBounds_toArray, List.set_cons_zero, List.set_cons_succ, if_true]
                all_goals exact rfl
              case h0_ra => exact (bl_drew (bl_refl wr))
              case hG_ra => exact fun L L' W hL h => h
              case hq_ra =>
                intro iq o hi ho L s W hLd hsh hs hg hLi K hK
                have ux := keep hg hx1
                have uy := keep hg hy1
                rcases (show iq = 0 ∨ iq = 1 ∨ iq = 2 ∨ iq = 3 ∨ iq = 4 ∨ iq = 5 ∨ iq = 6 ∨ iq = 7 ∨ iq = 8 ∨ iq = 9 ∨ iq = 10 ∨ iq = 11 by omega) with rfl | rfl | rfl | rfl | rfl | rfl | rfl | rfl | rfl | rfl | rfl | rfl
                · cases ho
                  simp only [Act.put, List.setIfInBounds_toArray, List.set_cons_zero, List.set_cons_succ] at hK
                  clear hs
                  go_simp
                  all_goals first | with_reducible exact hK.out _ _ rfl (bl_trans hg (bl_refl _)) | exact hK.out _ _ rfl hg
                · cases ho
                  simp only [Act.put, List.setIfInBounds_toArray, List.set_cons_zero, List.set_cons_succ] at hK
                  clear hs
                  go_simp
                  all_goals first | with_reducible exact hK.out _ _ rfl (bl_trans hg (bl_refl _)) | exact hK.out _ _ rfl hg
                · cases ho
                  have e0 : s 0 = _ := hs 0 (by decide) (by kernel_rfl)
                  have e1 : s 1 = _ := hs 1 (by decide) (by kernel_rfl)
                  simp only [e0, e1] at hK ⊢
                  simp only [Act.put, List.setIfInBounds_toArray, List.set_cons_zero, List.set_cons_succ] at hK
                  clear hs
                  go_simp
                  all_goals first | with_reducible exact hK.out _ _ rfl (bl_trans hg (bl_refl _)) | exact hK.out _ _ rfl hg
                · cases ho
                  have e2 : s 2 = _ := hs 2 (by decide) (by kernel_rfl)
                  simp only [e2] at hK ⊢
                  simp only [Act.put, List.setIfInBounds_toArray, List.set_cons_zero, List.set_cons_succ] at hK
                  clear hs
                  go_simp
                  all_goals first | with_reducible exact hK.out _ _ rfl (bl_trans hg (bl_refl _)) | exact hK.out _ _ rfl hg
                · cases ho
                  have e3 : s 3 = _ := hs 3 (by decide) (by kernel_rfl)
                  simp only [e3] at hK ⊢
                  simp only [Act.put, List.setIfInBounds_toArray, List.set_cons_zero, List.set_cons_succ] at hK
                  clear hs
                  go_simp
                  all_goals first | with_reducible exact hK.out _ _ rfl (bl_trans hg (bl_refl _)) | exact hK.out _ _ rfl hg
                · cases ho
                  simp only [Act.put, List.setIfInBounds_toArray, List.set_cons_zero, List.set_cons_succ] at hK
                  clear hs
                  go_simp
                  all_goals first | with_reducible exact hK.out _ _ rfl (bl_trans hg (bl_refl _)) | exact hK.out _ _ rfl hg
                · cases ho
                  simp only [Act.put, List.setIfInBounds_toArray, List.set_cons_zero, List.set_cons_succ] at hK
                  clear hs
                  go_simp
                  all_goals first | with_reducible exact hK.out _ _ rfl (bl_trans hg (bl_refl _)) | exact hK.out _ _ rfl hg
                · cases ho
                  have e5 : s 5 = _ := hs 5 (by decide) (by kernel_rfl)
                  have e6 : s 6 = _ := hs 6 (by decide) (by kernel_rfl)
                  simp only [e5, e6] at hK ⊢
                  simp only [Act.put, List.setIfInBounds_toArray, List.set_cons_zero, List.set_cons_succ] at hK
                  clear hs
                  go_simp
                  all_goals first | with_reducible exact hK.out _ _ rfl (bl_trans hg (bl_refl _)) | exact hK.out _ _ rfl hg
                · cases ho
                  have e7 : s 7 = _ := hs 7 (by decide) (by kernel_rfl)
                  simp only [e7] at hK ⊢
                  simp only [Act.put, List.setIfInBounds_toArray, List.set_cons_zero, List.set_cons_succ] at hK
                  clear hs
                  go_simp
                  all_goals first | with_reducible exact hK.out _ _ rfl (bl_trans hg (bl_refl _)) | exact hK.out _ _ rfl hg
                · cases ho
                  have e8 : s 8 = _ := hs 8 (by decide) (by kernel_rfl)
                  simp only [e8] at hK ⊢
                  simp only [Act.put, List.setIfInBounds_toArray, List.set_cons_zero, List.set_cons_succ] at hK
                  clear hs
                  go_simp
                  all_goals first | with_reducible exact hK.out _ _ rfl (bl_trans hg (bl_refl _)) | exact hK.out _ _ rfl hg
                · cases ho
                  have e4 : s 4 = _ := hs 4 (by decide) (by kernel_rfl)
                  simp only [e4] at hK ⊢
                  simp only [Act.put, List.setIfInBounds_toArray, List.set_cons_zero, List.set_cons_succ] at hK
                  clear hs
                  go_simp
                  all_goals first | with_reducible exact hK.out _ _ rfl (bl_trans hg (bl_refl _)) | exact hK.out _ _ rfl hg
                · cases ho
                  have e9 : s 9 = _ := hs 9 (by decide) (by kernel_rfl)
                  simp only [e9] at hK ⊢
                  simp only [Act.put, List.setIfInBounds_toArray, List.set_cons_zero, List.set_cons_succ] at hK
                  clear hs
                  go_simp
                  all_goals first | with_reducible exact hK.out _ _ rfl (bl_trans hg (bl_refl _)) | exact hK.out _ _ rfl hg
              case ht_ra =>
                intro s hs W hg
                have e0 : s 0 = _ := hs 0 (by decide)
                have e1 : s 1 = _ := hs 1 (by decide)
                have e2 : s 2 = _ := hs 2 (by decide)
                have e3 : s 3 = _ := hs 3 (by decide)
                have e4 : s 4 = _ := hs 4 (by decide)
                have e5 : s 5 = _ := hs 5 (by decide)
                have e6 : s 6 = _ := hs 6 (by decide)
                have e7 : s 7 = _ := hs 7 (by decide)
                have e8 : s 8 = _ := hs 8 (by decide)
                have e9 : s 9 = _ := hs 9 (by decide)
                have e10 : s 10 = _ := hs 10 (by decide)
                have e11 : s 11 = _ := hs 11 (by decide)
                simp only [e0, e1, e2, e3, e4, e5, e6, e7, e8, e9, e10, e11]
                clear hs e0 e1 e2 e3 e4 e5 e6 e7 e8 e9 e10 e11
                have hbW : Bel wr W := hg
                have kx := keep hg kx0
                have ky := keep hg ky0
                have hI1 := hI.bel hg
                obtain ⟨W1, rfl⟩ : ∃ W1, W1 = W := ⟨_, rfl⟩
                rcases Nat.lt_trichotomy (f x) (f y) with hxy | hxy | hxy
                · have hyx : y ≠ x := by rintro rfl; omega
                  have t1 : ((f x : Int) ≤ (f y : Int)) := by omega
                  have t5 : ¬ f y < f x := by omega
                  have t2 : (((f x : Nat) : Int) == ((f x : Nat) : Int)) = true := by simp
                  have t3 : (((f y : Nat) : Int) == ((f x : Nat) : Int)) = false := by simp; omega
                  repeat (first | go_values | go_skip | go_guarded | go_step | go_upon | go_back | dsimp only)
                  refine wp_region_gen 10 rfl (fun iq v => match iq with | 0 => v = .slice (some ⟨w.heap.size, 0, none⟩) n n | 1 => v = .int .i64 (x : Int) | 2 => v = .pointer (some ⟨w.heap.size, x, none⟩) | 3 => v = .int .i64 (f x : Int) | 4 => v = .slice (some ⟨w.heap.size, 0, none⟩) n n | 5 => v = .int .i64 (y : Int) | 6 => v = .pointer (some ⟨w.heap.size, y, none⟩) | 7 => v = .int .i64 (f y : Int) | 8 => v = .int .i64 (f x : Int) | 9 => v = .int .i64 (f x : Int) | _ => False) (fun _ W => Bel W1 W) ?A_mlt (by kernel_rfl) (by kernel_rfl) ?hA_mlt ?h0_mlt ?hG_mlt ?hq_mlt ?ht_mlt
                  case hA_mlt =>
                    intro s
                    simp only [putL, dstO, Act.put, List.getElem?_toArray, List.getElem?_cons_zero, List.getElem?_cons_succ, Option.bind_some, Option.bind_none, List.setIfInBounds_toArray, List.set_cons_zero, List.set_cons_succ, if_true]
                    all_goals exact rfl
                  case h0_mlt => exact (bl_drew (bl_refl W1))
                  case hG_mlt => exact fun L L' W hL h => h
                  case hq_mlt =>
                    intro iq o hi ho L s W hLd hsh hs hg hLi K hK
                    have ux := keep hg kx
                    have uy := keep hg ky
                    rcases (show iq = 0 ∨ iq = 1 ∨ iq = 2 ∨ iq = 3 ∨ iq = 4 ∨ iq = 5 ∨ iq = 6 ∨ iq = 7 ∨ iq = 8 ∨ iq = 9 by omega) with rfl | rfl | rfl | rfl | rfl | rfl | rfl | rfl | rfl | rfl
                    · cases ho
                      simp only [Act.put, List.setIfInBounds_toArray, List.set_cons_zero, List.set_cons_succ] at hK
                      clear hs
                      go_simp
                      all_goals first | with_reducible exact hK.out _ _ rfl (bl_trans hg (bl_refl _)) | exact hK.out _ _ rfl hg
                    · cases ho
                      simp only [Act.put, List.setIfInBounds_toArray, List.set_cons_zero, List.set_cons_succ] at hK
                      clear hs
                      go_simp
                      all_goals first | with_reducible exact hK.out _ _ rfl (bl_trans hg (bl_refl _)) | exact hK.out _ _ rfl hg
                    · cases ho
                      have e0 : s 0 = _ := hs 0 (by decide) (by kernel_rfl)
                      have e1 : s 1 = _ := hs 1 (by decide) (by kernel_rfl)
                      simp only [e0, e1] at hK ⊢
                      simp only [Act.put, List.setIfInBounds_toArray, List.set_cons_zero, List.set_cons_succ] at hK
                      clear hs
                      go_simp
                      all_goals first | with_reducible exact hK.out _ _ rfl (bl_trans hg (bl_refl _)) | exact hK.out _ _ rfl hg
                    · cases ho
                      have e2 : s 2 = _ := hs 2 (by decide) (by kernel_rfl)
                      simp only [e2] at hK ⊢
                      simp only [Act.put, List.setIfInBounds_toArray, List.set_cons_zero, List.set_cons_succ] at hK
                      clear hs
                      go_simp
                      all_goals first | with_reducible exact hK.out _ _ rfl (bl_trans hg (bl_refl _)) | exact hK.out _ _ rfl hg
                    · cases ho
                      simp only [Act.put, List.setIfInBounds_toArray, List.set_cons_zero, List.set_cons_succ] at hK
                      clear hs
                      go_simp
                      all_goals first | with_reducible exact hK.out _ _ rfl (bl_trans hg (bl_refl _)) | exact hK.out _ _ rfl hg
                    · cases ho
                      simp only [Act.put, List.setIfInBounds_toArray, List.set_cons_zero, List.set_cons_succ] at hK
                      clear hs
                      go_simp
                      all_goals first | with_reducible exact hK.out _ _ rfl (bl_trans hg (bl_refl _)) | exact hK.out _ _ rfl hg
                    · cases ho
                      have e4 : s 4 = _ := hs 4 (by decide) (by kernel_rfl)
                      have e5 : s 5 = _ := hs 5 (by decide) (by kernel_rfl)
                      simp only [e4, e5] at hK ⊢
                      simp only [Act.put, List.setIfInBounds_toArray, List.set_cons_zero, List.set_cons_succ] at hK
                      clear hs
                      go_simp
                      all_goals first | with_reducible exact hK.out _ _ rfl (bl_trans hg (bl_refl _)) | exact hK.out _ _ rfl hg
                    · cases ho
                      have e6 : s 6 = _ := hs 6 (by decide) (by kernel_rfl)
                      simp only [e6] at hK ⊢
                      simp only [Act.put, List.setIfInBounds_toArray, List.set_cons_zero, List.set_cons_succ] at hK
                      clear hs
                      go_simp
                      all_goals first | with_reducible exact hK.out _ _ rfl (bl_trans hg (bl_refl _)) | exact hK.out _ _ rfl hg
                    · cases ho
                      have e3 : s 3 = _ := hs 3 (by decide) (by kernel_rfl)
                      have e7 : s 7 = _ := hs 7 (by decide) (by kernel_rfl)
                      simp only [e3, e7] at hK ⊢
                      simp only [Act.put, List.setIfInBounds_toArray, List.set_cons_zero, List.set_cons_succ] at hK
                      clear hs
                      go_simp
                      all_goals first | with_reducible exact hK.out _ _ rfl (bl_trans hg (bl_refl _)) | exact hK.out _ _ rfl hg
                    · cases ho
                      have e8 : s 8 = _ := hs 8 (by decide) (by kernel_rfl)
                      simp only [e8] at hK ⊢
                      simp only [Act.put, List.setIfInBounds_toArray, List.set_cons_zero, List.set_cons_succ] at hK
                      clear hs
                      go_simp
                      all_goals first | with_reducible exact hK.out _ _ rfl (bl_trans hg (bl_refl _)) | exact hK.out _ _ rfl hg
                  case ht_mlt =>
                    intro s hs W hg
                    have e0 : s 0 = _ := hs 0 (by decide)
                    have e1 : s 1 = _ := hs 1 (by decide)
                    have e2 : s 2 = _ := hs 2 (by decide)
                    have e3 : s 3 = _ := hs 3 (by decide)
                    have e4 : s 4 = _ := hs 4 (by decide)
                    have e5 : s 5 = _ := hs 5 (by decide)
                    have e6 : s 6 = _ := hs 6 (by decide)
                    have e7 : s 7 = _ := hs 7 (by decide)
                    have e8 : s 8 = _ := hs 8 (by decide)
                    have e9 : s 9 = _ := hs 9 (by decide)
                    simp only [e0, e1, e2, e3, e4, e5, e6, e7, e8, e9]
                    clear hs e0 e1 e2 e3 e4 e5 e6 e7 e8 e9
                    replace hbW := bl_trans hbW hg
                    replace kx := keep hg kx
                    replace ky := keep hg ky
                    have hIW := hI1.bel hg
                    have fx := hIW.fr x hxn
                    have fy := (hIW.set (v := (f x : Int)) hxn).fr y hyn
                    have ky2 := (hIW.set (v := (f x : Int)) hxn).at_ y hyn
                    repeat (first | go_values | go_skip | go_guarded | go_step | go_upon | go_back | dsimp only)
                    refine ⟨⟨q + 1, by omega, by first | go_num | rfl, ?_, ?_, true, updN (updN f x (f x)) y (f x), by first | rfl | trivial, ?_, upd_le (upd_le hle (hle x)) (by have := hle y; omega), fun z hz => ?_, fun _ => ?_, fun h => (by cases h)⟩, by simp [intOf]; omega⟩
                    · exact bel_set1 (bel_set1 (bl_trans hB hbW) (Nat.le_refl _)) (Nat.le_refl _)
                    · rw [size_set, size_set]; have := hbW.size; omega
                    · rw [← nI_upd, ← nI_upd]; exact (hIW.set hxn).set hyn
                    · by_cases e : z = y
                      · subst e; rw [upd_self]; exact ((Con.link hlt hx hy).symm.trans (hcon x hxn))
                      · rw [upd_ne e]
                        by_cases e2 : z = x
                        · subst e2; rw [upd_self]; exact (hcon _ hxn)
                        · rw [upd_ne e2]; exact hcon z hz
                    · refine Nat.lt_of_lt_of_le (sum_lt (v := f x) hyn (by rw [upd_ne hyx]; exact hxy)) (Nat.le_trans (sum_le (v := f x) hxn (Nat.le_refl _)) hsl)
                · rw [hxy] at kx
                  repeat (first | go_values | go_skip | go_guarded | go_step | go_upon | go_back | dsimp only)
                  refine wp_region_gen 10 rfl (fun iq v => match iq with | 0 => v = .slice (some ⟨w.heap.size, 0, none⟩) n n | 1 => v = .int .i64 (x : Int) | 2 => v = .pointer (some ⟨w.heap.size, x, none⟩) | 3 => v = .int .i64 (f y : Int) | 4 => v = .slice (some ⟨w.heap.size, 0, none⟩) n n | 5 => v = .int .i64 (y : Int) | 6 => v = .pointer (some ⟨w.heap.size, y, none⟩) | 7 => v = .int .i64 (f y : Int) | 8 => v = .int .i64 (f y : Int) | 9 => v = .int .i64 (f y : Int) | _ => False) (fun _ W => Bel W1 W) ?A_meq (by kernel_rfl) (by kernel_rfl) ?hA_meq ?h0_meq ?hG_meq ?hq_meq ?ht_meq
                  case hA_meq =>
                    intro s
                    simp only [putL, dstO, Act.put, List.getElem?_toArray, List.getElem?_cons_zero, List.getElem?_cons_succ, Option.bind_some, Option.bind_none, List.setIfInBounds_toArray, List.set_cons_zero, List.set_cons_succ, if_true]
                    all_goals exact rfl
                  case h0_meq => exact (bl_drew (bl_refl W1))
                  case hG_meq => exact fun L L' W hL h => h
                  case hq_meq =>
                    intro iq o hi ho L s W hLd hsh hs hg hLi K hK
                    have ux := keep hg kx
                    have uy := keep hg ky
                    rcases (show iq = 0 ∨ iq = 1 ∨ iq = 2 ∨ iq = 3 ∨ iq = 4 ∨ iq = 5 ∨ iq = 6 ∨ iq = 7 ∨ iq = 8 ∨ iq = 9 by omega) with rfl | rfl | rfl | rfl | rfl | rfl | rfl | rfl | rfl | rfl
                    · cases ho
                      simp only [Act.put, List.setIfInBounds_toArray, List.set_cons_zero, List.set_cons_succ] at hK
                      clear hs
                      go_simp
                      all_goals first | with_reducible exact hK.out _ _ rfl (bl_trans hg (bl_refl _)) | exact hK.out _ _ rfl hg
                    · cases ho
                      simp only [Act.put, List.setIfInBounds_toArray, List.set_cons_zero, List.set_cons_succ] at hK
                      clear hs
                      go_simp
                      all_goals first | with_reducible exact hK.out _ _ rfl (bl_trans hg (bl_refl _)) | exact hK.out _ _ rfl hg
                    · cases ho
                      have e0 : s 0 = _ := hs 0 (by decide) (by kernel_rfl)
                      have e1 : s 1 = _ := hs 1 (by decide) (by kernel_rfl)
                      simp only [e0, e1] at hK ⊢
                      simp only [Act.put, List.setIfInBounds_toArray, List.set_cons_zero, List.set_cons_succ] at hK
                      clear hs
                      go_simp
                      all_goals first | with_reducible exact hK.out _ _ rfl (bl_trans hg (bl_refl _)) | exact hK.out _ _ rfl hg
                    · cases ho
                      have e2 : s 2 = _ := hs 2 (by decide) (by kernel_rfl)
                      simp only [e2] at hK ⊢
                      simp only [Act.put, List.setIfInBounds_toArray, List.set_cons_zero, List.set_cons_succ] at hK
                      clear hs
                      go_simp
                      all_goals first | with_reducible exact hK.out _ _ rfl (bl_trans hg (bl_refl _)) | exact hK.out _ _ rfl hg
                    · cases ho
                      simp only [Act.put, List.setIfInBounds_toArray, List.set_cons_zero, List.set_cons_succ] at hK
                      clear hs
                      go_simp
                      all_goals first | with_reducible exact hK.out _ _ rfl (bl_trans hg (bl_refl _)) | exact hK.out _ _ rfl hg
                    · cases ho
                      simp only [Act.put, List.setIfInBounds_toArray, List.set_cons_zero, List.set_cons_succ] at hK
                      clear hs
                      go_simp
                      all_goals first | with_reducible exact hK.out _ _ rfl (bl_trans hg (bl_refl _)) | exact hK.out _ _ rfl hg
                    · cases ho
                      have e4 : s 4 = _ := hs 4 (by decide) (by kernel_rfl)
                      have e5 : s 5 = _ := hs 5 (by decide) (by kernel_rfl)
                      simp only [e4, e5] at hK ⊢
                      simp only [Act.put, List.setIfInBounds_toArray, List.set_cons_zero, List.set_cons_succ] at hK
                      clear hs
                      go_simp
                      all_goals first | with_reducible exact hK.out _ _ rfl (bl_trans hg (bl_refl _)) | exact hK.out _ _ rfl hg
                    · cases ho
                      have e6 : s 6 = _ := hs 6 (by decide) (by kernel_rfl)
                      simp only [e6] at hK ⊢
                      simp only [Act.put, List.setIfInBounds_toArray, List.set_cons_zero, List.set_cons_succ] at hK
                      clear hs
                      go_simp
                      all_goals first | with_reducible exact hK.out _ _ rfl (bl_trans hg (bl_refl _)) | exact hK.out _ _ rfl hg
                    · cases ho
                      have e3 : s 3 = _ := hs 3 (by decide) (by kernel_rfl)
                      have e7 : s 7 = _ := hs 7 (by decide) (by kernel_rfl)
                      simp only [e3, e7] at hK ⊢
                      simp only [Act.put, List.setIfInBounds_toArray, List.set_cons_zero, List.set_cons_succ] at hK
                      clear hs
                      go_simp
                      all_goals first | with_reducible exact hK.out _ _ rfl (bl_trans hg (bl_refl _)) | exact hK.out _ _ rfl hg
                    · cases ho
                      have e8 : s 8 = _ := hs 8 (by decide) (by kernel_rfl)
                      simp only [e8] at hK ⊢
                      simp only [Act.put, List.setIfInBounds_toArray, List.set_cons_zero, List.set_cons_succ] at hK
                      clear hs
                      go_simp
                      all_goals first | with_reducible exact hK.out _ _ rfl (bl_trans hg (bl_refl _)) | exact hK.out _ _ rfl hg
                  case ht_meq =>
                    intro s hs W hg
                    have e0 : s 0 = _ := hs 0 (by decide)
                    have e1 : s 1 = _ := hs 1 (by decide)
                    have e2 : s 2 = _ := hs 2 (by decide)
                    have e3 : s 3 = _ := hs 3 (by decide)
                    have e4 : s 4 = _ := hs 4 (by decide)
                    have e5 : s 5 = _ := hs 5 (by decide)
                    have e6 : s 6 = _ := hs 6 (by decide)
                    have e7 : s 7 = _ := hs 7 (by decide)
                    have e8 : s 8 = _ := hs 8 (by decide)
                    have e9 : s 9 = _ := hs 9 (by decide)
                    simp only [e0, e1, e2, e3, e4, e5, e6, e7, e8, e9]
                    clear hs e0 e1 e2 e3 e4 e5 e6 e7 e8 e9
                    replace hbW := bl_trans hbW hg
                    replace kx := keep hg kx
                    replace ky := keep hg ky
                    have hIW := hI1.bel hg
                    repeat (first | go_values | go_skip | go_guarded | go_step | go_upon | go_back | dsimp only)
                    refine ⟨⟨q + 1, by omega, by first | go_num | rfl, bl_trans hB hbW, by have := hbW.size; omega, b, f, by first | rfl | trivial, hIW, hle, hcon, hbt, fun h => ⟨(hbf h).1, fun j hj => ?_⟩⟩, by simp [intOf]; omega⟩
                    rcases Nat.lt_or_ge j q with h9 | h9
                    · exact (hbf h).2 j h9
                    · have e : j = q := by omega
                      subst e
                      rw [hx, hy, ← (hbf h).1]
                      simpa using hxy
                · have hyx : y ≠ x := by rintro rfl; omega
                  have t1 : ((f y : Int) ≤ (f x : Int)) := by omega
                  have t3 : (((f x : Nat) : Int) == ((f y : Nat) : Int)) = false := by simp; omega
                  repeat (first | go_values | go_skip | go_guarded | go_step | go_upon | go_back | dsimp only)
                  refine wp_region_gen 10 rfl (fun iq v => match iq with | 0 => v = .slice (some ⟨w.heap.size, 0, none⟩) n n | 1 => v = .int .i64 (x : Int) | 2 => v = .pointer (some ⟨w.heap.size, x, none⟩) | 3 => v = .int .i64 (f x : Int) | 4 => v = .slice (some ⟨w.heap.size, 0, none⟩) n n | 5 => v = .int .i64 (y : Int) | 6 => v = .pointer (some ⟨w.heap.size, y, none⟩) | 7 => v = .int .i64 (f y : Int) | 8 => v = .int .i64 (f y : Int) | 9 => v = .int .i64 (f y : Int) | _ => False) (fun _ W => Bel W1 W) ?A_mgt (by kernel_rfl) (by kernel_rfl) ?hA_mgt ?h0_mgt ?hG_mgt ?hq_mgt ?ht_mgt
                  case hA_mgt =>
                    intro s
                    simp only [putL, dstO, Act.put, List.getElem?_toArray, List.getElem?_cons_zero, List.getElem?_cons_succ, Option.bind_some, Option.bind_none, List.setIfInBounds_toArray, List.set_cons_zero, List.set_cons_succ, if_true]
                    all_goals exact rfl
                  case h0_mgt => exact (bl_drew (bl_refl W1))
                  case hG_mgt => exact fun L L' W hL h => h
                  case hq_mgt =>
                    intro iq o hi ho L s W hLd hsh hs hg hLi K hK
                    have ux := keep hg kx
                    have uy := keep hg ky
                    rcases (show iq = 0 ∨ iq = 1 ∨ iq = 2 ∨ iq = 3 ∨ iq = 4 ∨ iq = 5 ∨ iq = 6 ∨ iq = 7 ∨ iq = 8 ∨ iq = 9 by omega) with rfl | rfl | rfl | rfl | rfl | rfl | rfl | rfl | rfl | rfl
                    · cases ho
                      simp only [Act.put, List.setIfInBounds_toArray, List.set_cons_zero, List.set_cons_succ] at hK
                      clear hs
                      go_simp
                      all_goals first | with_reducible exact hK.out _ _ rfl (bl_trans hg (bl_refl _)) | exact hK.out _ _ rfl hg
                    · cases ho
                      simp only [Act.put, List.setIfInBounds_toArray, List.set_cons_zero, List.set_cons_succ] at hK
                      clear hs
                      go_simp
                      all_goals first | with_reducible exact hK.out _ _ rfl (bl_trans hg (bl_refl _)) | exact hK.out _ _ rfl hg
                    · cases ho
                      have e0 : s 0 = _ := hs 0 (by decide) (by kernel_rfl)
                      have e1 : s 1 = _ := hs 1 (by decide) (by kernel_rfl)
                      simp only [e0, e1] at hK ⊢
                      simp only [Act.put, List.setIfInBounds_toArray, List.set_cons_zero, List.set_cons_succ] at hK
                      clear hs
                      go_simp
                      all_goals first | with_reducible exact hK.out _ _ rfl (bl_trans hg (bl_refl _)) | exact hK.out _ _ rfl hg
                    · cases ho
                      have e2 : s 2 = _ := hs 2 (by decide) (by kernel_rfl)
                      simp only [e2] at hK ⊢
                      simp only [Act.put, List.setIfInBounds_toArray, List.set_cons_zero, List.set_cons_succ] at hK
                      clear hs
                      go_simp
                      all_goals first | with_reducible exact hK.out _ _ rfl (bl_trans hg (bl_refl _)) | exact hK.out _ _ rfl hg
                    · cases ho
                      simp only [Act.put, List.setIfInBounds_toArray, List.set_cons_zero, List.set_cons_succ] at hK
                      clear hs
                      go_simp
                      all_goals first | with_reducible exact hK.out _ _ rfl (bl_trans hg (bl_refl _)) | exact hK.out _ _ rfl hg
                    · cases ho
                      simp only [Act.put, List.setIfInBounds_toArray, List.set_cons_zero, List.set_cons_succ] at hK
                      clear hs
                      go_simp
                      all_goals first | with_reducible exact hK.out _ _ rfl (bl_trans hg (bl_refl _)) | exact hK.out _ _ rfl hg
                    · cases ho
                      have e4 : s 4 = _ := hs 4 (by decide) (by kernel_rfl)
                      have e5 : s 5 = _ := hs 5 (by decide) (by kernel_rfl)
                      simp only [e4, e5] at hK ⊢
                      simp only [Act.put, List.setIfInBounds_toArray, List.set_cons_zero, List.set_cons_succ] at hK
                      clear hs
                      go_simp
                      all_goals first | with_reducible exact hK.out _ _ rfl (bl_trans hg (bl_refl _)) | exact hK.out _ _ rfl hg
                    · cases ho
                      have e6 : s 6 = _ := hs 6 (by decide) (by kernel_rfl)
                      simp only [e6] at hK ⊢
                      simp only [Act.put, List.setIfInBounds_toArray, List.set_cons_zero, List.set_cons_succ] at hK
                      clear hs
                      go_simp
                      all_goals first | with_reducible exact hK.out _ _ rfl (bl_trans hg (bl_refl _)) | exact hK.out _ _ rfl hg
                    · cases ho
                      have e3 : s 3 = _ := hs 3 (by decide) (by kernel_rfl)
                      have e7 : s 7 = _ := hs 7 (by decide) (by kernel_rfl)
                      simp only [e3, e7] at hK ⊢
                      simp only [Act.put, List.setIfInBounds_toArray, List.set_cons_zero, List.set_cons_succ] at hK
                      clear hs
                      go_simp
                      all_goals first | with_reducible exact hK.out _ _ rfl (bl_trans hg (bl_refl _)) | exact hK.out _ _ rfl hg
                    · cases ho
                      have e8 : s 8 = _ := hs 8 (by decide) (by kernel_rfl)
                      simp only [e8] at hK ⊢
                      simp only [Act.put, List.setIfInBounds_toArray, List.set_cons_zero, List.set_cons_succ] at hK
                      clear hs
                      go_simp
                      all_goals first | with_reducible exact hK.out _ _ rfl (bl_trans hg (bl_refl _)) | exact hK.out _ _ rfl hg
                  case ht_mgt =>
                    intro s hs W hg
                    have e0 : s 0 = _ := hs 0 (by decide)
                    have e1 : s 1 = _ := hs 1 (by decide)
                    have e2 : s 2 = _ := hs 2 (by decide)
                    have e3 : s 3 = _ := hs 3 (by decide)
                    have e4 : s 4 = _ := hs 4 (by decide)
                    have e5 : s 5 = _ := hs 5 (by decide)
                    have e6 : s 6 = _ := hs 6 (by decide)
                    have e7 : s 7 = _ := hs 7 (by decide)
                    have e8 : s 8 = _ := hs 8 (by decide)
                    have e9 : s 9 = _ := hs 9 (by decide)
                    simp only [e0, e1, e2, e3, e4, e5, e6, e7, e8, e9]
                    clear hs e0 e1 e2 e3 e4 e5 e6 e7 e8 e9
                    replace hbW := bl_trans hbW hg
                    replace kx := keep hg kx
                    replace ky := keep hg ky
                    have hIW := hI1.bel hg
                    have fx := hIW.fr x hxn
                    have fy := (hIW.set (v := (f y : Int)) hxn).fr y hyn
                    have ky2 := (hIW.set (v := (f y : Int)) hxn).at_ y hyn
                    repeat (first | go_values | go_skip | go_guarded | go_step | go_upon | go_back | dsimp only)
                    refine ⟨⟨q + 1, by omega, by first | go_num | rfl, ?_, ?_, true, updN (updN f x (f y)) y (f y), by first | rfl | trivial, ?_, upd_le (upd_le hle (by have := hle x; omega)) (hle y), fun z hz => ?_, fun _ => ?_, fun h => (by cases h)⟩, by simp [intOf]; omega⟩
                    · exact bel_set1 (bel_set1 (bl_trans hB hbW) (Nat.le_refl _)) (Nat.le_refl _)
                    · rw [size_set, size_set]; have := hbW.size; omega
                    · rw [← nI_upd, ← nI_upd]; exact (hIW.set hxn).set hyn
                    · by_cases e : z = y
                      · subst e; rw [upd_self]; exact (hcon _ hyn)
                      · rw [upd_ne e]
                        by_cases e2 : z = x
                        · subst e2; rw [upd_self]; exact ((Con.link hlt hx hy).trans (hcon y hyn))
                        · rw [upd_ne e2]; exact hcon z hz
                    · refine Nat.lt_of_le_of_lt (sum_le (v := f y) hyn (by rw [upd_ne hyx]; exact Nat.le_refl _)) (Nat.lt_of_lt_of_le (sum_lt (v := f y) hxn hxy) hsl)
            · have hqn : q = m := by omega
              subst hqn
              obtain ⟨w3, rfl⟩ : ∃ w3, w3 = wr := ⟨_, rfl⟩
              repeat (first | go_values | go_skip | go_guarded | go_step | go_upon | go_back | dsimp only)
              go_loopw [12, 7] (fun i c wr => ∃ j : Nat, j ≤ n ∧ i = .int .i64 j ∧ Bel w wr ∧ w.heap.size < wr.heap.size ∧ ∃ (b : Bool) (f : Nat → Nat), c = .bool b ∧ IntM wr (w.heap.size) n (nI f) ∧ (∀ j, f j ≤ j) ∧ (∀ j, j < n → Con A B q j (f j)) ∧ (b = true → sumN f n < sumN f0 n) ∧ (b = false → f = f0 ∧ ∀ j, j < q → f0 (A j).toNat = f0 (B j).toNat)) (fun i _ _ => n - (intOf i).toNat)
              case atStart => exact ⟨0, by omega, rfl, hB, hz2, b, f, rfl, hI, hle, hcon, hbt, hbf⟩
              case round =>
                clear hI hle hcon hbt hbf hsl hB hz2
                obtain ⟨j, hj, rfl, hB, hz2, b, f, rfl, hI, hle, hcon, hbt, hbf⟩ := hrel
                have hsl : sumN f n ≤ sumN f0 n := by
                  cases b
                  · rw [(hbf rfl).1]; exact Nat.le_refl _
                  · exact Nat.le_of_lt (hbt rfl)
                by_cases hlt : j < n
                · have hkI : (j : Int) < (n : Int) := by omega
                  have hfn : f j < n := Nat.lt_of_le_of_lt (hle j) hlt
                  have hfI : (f j : Int) < (n : Int) := by omega
                  have kj0 : wr.cell? ⟨w.heap.size, j, none⟩ = some (.int .i64 (f j : Int)) := hI.at_ j hlt
                  have kf0 : wr.cell? ⟨w.heap.size, f j, none⟩ = some (.int .i64 (f (f j) : Int)) := hI.at_ (f j) hfn
                  by_cases hff : f (f j) = f j
                  · have t2 : (((f (f j) : Nat) : Int) == ((f j : Nat) : Int)) = true := by simp; omega
                    have t4 : (((f (f j) : Nat) : Int) != ((f j : Nat) : Int)) = false := by simp; omega
                    rw [hff] at kf0
                    repeat (first | go_values | go_skip | go_guarded | go_step | go_upon | go_back | dsimp only)
                    refine wp_region_gen 12 rfl (fun iq v => match iq with | 0 => v = .slice (some ⟨w.heap.size, 0, none⟩) n n | 1 => v = .slice (some ⟨w.heap.size, 0, none⟩) n n | 2 => v = .int .i64 (j : Int) | 3 => v = .pointer (some ⟨w.heap.size, j, none⟩) | 4 => v = .int .i64 (f j : Int) | 5 => v = .pointer (some ⟨w.heap.size, f j, none⟩) | 6 => v = .int .i64 (f j : Int) | 7 => v = .slice (some ⟨w.heap.size, 0, none⟩) n n | 8 => v = .int .i64 (j : Int) | 9 => v = .pointer (some ⟨w.heap.size, j, none⟩) | 10 => v = .int .i64 (f j : Int) | 11 => v = .bool false | _ => False) (fun _ W => Bel wr W) ?A_qa (by kernel_rfl) (by kernel_rfl) ?hA_qa ?h0_qa ?hG_qa ?hq_qa ?ht_qa
                    case hA_qa =>
                      intro s
                      simp only [putL, dstO, Act.put, List.getElem?_toArray, List.getElem?_cons_zero, List.getElem?_cons_succ, Option.bind_some, Option.bind_none, List.setIfInBounds_toArray, List.set_cons_zero, List.set_cons_succ, if_true]
                      all_goals exact rfl
                    case h0_qa => exact (bl_drew (bl_refl wr))
                    case hG_qa => exact fun L L' W hL h => h
                    case hq_qa =>
                      intro iq o hi ho L s W hLd hsh hs hg hLi K hK
                      have uj := keep hg kj0
                      have uf := keep hg kf0
                      rcases (show iq = 0 ∨ iq = 1 ∨ iq = 2 ∨ iq = 3 ∨ iq = 4 ∨ iq = 5 ∨ iq = 6 ∨ iq = 7 ∨ iq = 8 ∨ iq = 9 ∨ iq = 10 ∨ iq = 11 by omega) with rfl | rfl | rfl | rfl | rfl | rfl | rfl | rfl | rfl | rfl | rfl | rfl
                      · cases ho
                        simp only [Act.put, List.setIfInBounds_toArray, List.set_cons_zero, List.set_cons_succ] at hK
                        clear hs
                        go_simp
                        all_goals first | with_reducible exact hK.out _ _ rfl (bl_trans hg (bl_refl _)) | exact hK.out _ _ rfl hg
                      · cases ho
                        simp only [Act.put, List.setIfInBounds_toArray, List.set_cons_zero, List.set_cons_succ] at hK
                        clear hs
                        go_simp
                        all_goals first | with_reducible exact hK.out _ _ rfl (bl_trans hg (bl_refl _)) | exact hK.out _ _ rfl hg
                      · cases ho
                        simp only [Act.put, List.setIfInBounds_toArray, List.set_cons_zero, List.set_cons_succ] at hK
                        clear hs
                        go_simp
                        all_goals first | with_reducible exact hK.out _ _ rfl (bl_trans hg (bl_refl _)) | exact hK.out _ _ rfl hg
                      · cases ho
                        have e1 : s 1 = _ := hs 1 (by decide) (by kernel_rfl)
                        have e2 : s 2 = _ := hs 2 (by decide) (by kernel_rfl)
                        simp only [e1, e2] at hK ⊢
                        simp only [Act.put, List.setIfInBounds_toArray, List.set_cons_zero, List.set_cons_succ] at hK
                        clear hs
                        go_simp
                        all_goals first | with_reducible exact hK.out _ _ rfl (bl_trans hg (bl_refl _)) | exact hK.out _ _ rfl hg
                      · cases ho
                        have e3 : s 3 = _ := hs 3 (by decide) (by kernel_rfl)
                        simp only [e3] at hK ⊢
                        simp only [Act.put, List.setIfInBounds_toArray, List.set_cons_zero, List.set_cons_succ] at hK
                        clear hs
                        go_simp
                        all_goals first | with_reducible exact hK.out _ _ rfl (bl_trans hg (bl_refl _)) | exact hK.out _ _ rfl hg
                      · cases ho
                        have e0 : s 0 = _ := hs 0 (by decide) (by kernel_rfl)
                        have e4 : s 4 = _ := hs 4 (by decide) (by kernel_rfl)
                        simp only [e0, e4] at hK ⊢
                        simp only [Act.put, List.setIfInBounds_toArray, List.set_cons_zero, List.set_cons_succ] at hK
                        clear hs
                        go_simp
                        all_goals first | with_reducible exact hK.out _ _ rfl (bl_trans hg (bl_refl _)) | exact hK.out _ _ rfl hg
                      · cases ho
                        have e5 : s 5 = _ := hs 5 (by decide) (by kernel_rfl)
                        simp only [e5] at hK ⊢
                        simp only [Act.put, List.setIfInBounds_toArray, List.set_cons_zero, List.set_cons_succ] at hK
                        clear hs
                        go_simp
                        all_goals first | with_reducible exact hK.out _ _ rfl (bl_trans hg (bl_refl _)) | exact hK.out _ _ rfl hg
                      · cases ho
                        simp only [Act.put, List.setIfInBounds_toArray, List.set_cons_zero, List.set_cons_succ] at hK
                        clear hs
                        go_simp
                        all_goals first | with_reducible exact hK.out _ _ rfl (bl_trans hg (bl_refl _)) | exact hK.out _ _ rfl hg
                      · cases ho
                        simp only [Act.put, List.setIfInBounds_toArray, List.set_cons_zero, List.set_cons_succ] at hK
                        clear hs
                        go_simp
                        all_goals first | with_reducible exact hK.out _ _ rfl (bl_trans hg (bl_refl _)) | exact hK.out _ _ rfl hg
                      · cases ho
                        have e7 : s 7 = _ := hs 7 (by decide) (by kernel_rfl)
                        have e8 : s 8 = _ := hs 8 (by decide) (by kernel_rfl)
                        simp only [e7, e8] at hK ⊢
                        simp only [Act.put, List.setIfInBounds_toArray, List.set_cons_zero, List.set_cons_succ] at hK
                        clear hs
                        go_simp
                        all_goals first | with_reducible exact hK.out _ _ rfl (bl_trans hg (bl_refl _)) | exact hK.out _ _ rfl hg
                      · cases ho
                        have e9 : s 9 = _ := hs 9 (by decide) (by kernel_rfl)
                        simp only [e9] at hK ⊢
                        simp only [Act.put, List.setIfInBounds_toArray, List.set_cons_zero, List.set_cons_succ] at hK
                        clear hs
                        go_simp
                        all_goals first | with_reducible exact hK.out _ _ rfl (bl_trans hg (bl_refl _)) | exact hK.out _ _ rfl hg
                      · cases ho
                        have e6 : s 6 = _ := hs 6 (by decide) (by kernel_rfl)
                        have e10 : s 10 = _ := hs 10 (by decide) (by kernel_rfl)
                        simp only [e6, e10] at hK ⊢
                        simp only [Act.put, List.setIfInBounds_toArray, List.set_cons_zero, List.set_cons_succ] at hK
                        clear hs
                        go_simp
                        all_goals first | with_reducible exact hK.out _ _ rfl (bl_trans hg (bl_refl _)) | exact hK.out _ _ rfl hg
                    case ht_qa =>
                      intro s hs W hg
                      have e0 : s 0 = _ := hs 0 (by decide)
                      have e1 : s 1 = _ := hs 1 (by decide)
                      have e2 : s 2 = _ := hs 2 (by decide)
                      have e3 : s 3 = _ := hs 3 (by decide)
                      have e4 : s 4 = _ := hs 4 (by decide)
                      have e5 : s 5 = _ := hs 5 (by decide)
                      have e6 : s 6 = _ := hs 6 (by decide)
                      have e7 : s 7 = _ := hs 7 (by decide)
                      have e8 : s 8 = _ := hs 8 (by decide)
                      have e9 : s 9 = _ := hs 9 (by decide)
                      have e10 : s 10 = _ := hs 10 (by decide)
                      have e11 : s 11 = _ := hs 11 (by decide)
                      simp only [e0, e1, e2, e3, e4, e5, e6, e7, e8, e9, e10, e11]
                      clear hs e0 e1 e2 e3 e4 e5 e6 e7 e8 e9 e10 e11
                      have hIW := hI.bel hg
                      repeat (first | go_values | go_skip | go_guarded | go_step | go_upon | go_back | dsimp only)
                      exact ⟨⟨j + 1, by omega, by first | go_num | rfl, bl_trans hB hg, by have := hg.size; omega, b, f, by first | rfl | trivial, hIW, hle, hcon, hbt, hbf⟩, by simp [intOf]; omega⟩
                  · have t2 : (((f (f j) : Nat) : Int) == ((f j : Nat) : Int)) = false := by simp; omega
                    have t4 : (((f (f j) : Nat) : Int) != ((f j : Nat) : Int)) = true := by simp; omega
                    repeat (first | go_values | go_skip | go_guarded | go_step | go_upon | go_back | dsimp only)
                    refine wp_region_gen 12 rfl (fun iq v => match iq with | 0 => v = .slice (some ⟨w.heap.size, 0, none⟩) n n | 1 => v = .slice (some ⟨w.heap.size, 0, none⟩) n n | 2 => v = .int .i64 (j : Int) | 3 => v = .pointer (some ⟨w.heap.size, j, none⟩) | 4 => v = .int .i64 (f j : Int) | 5 => v = .pointer (some ⟨w.heap.size, f j, none⟩) | 6 => v = .int .i64 (f (f j) : Int) | 7 => v = .slice (some ⟨w.heap.size, 0, none⟩) n n | 8 => v = .int .i64 (j : Int) | 9 => v = .pointer (some ⟨w.heap.size, j, none⟩) | 10 => v = .int .i64 (f j : Int) | 11 => v = .bool true | _ => False) (fun _ W => Bel wr W) ?A_qb (by kernel_rfl) (by kernel_rfl) ?hA_qb ?h0_qb ?hG_qb ?hq_qb ?ht_qb
                    case hA_qb =>
                      intro s
                      simp only [putL, dstO, Act.put, List.getElem?_toArray, List.getElem?_cons_zero, List.getElem?_cons_succ, Option.bind_some, Option.bind_none, List.setIfInBounds_toArray, List.set_cons_zero, List.set_cons_succ, if_true]
                      all_goals exact rfl
                    case h0_qb => exact (bl_drew (bl_refl wr))
                    case hG_qb => exact fun L L' W hL h => h
                    case hq_qb =>
                      intro iq o hi ho L s W hLd hsh hs hg hLi K hK
                      have uj := keep hg kj0
                      have uf := keep hg kf0
                      rcases (show iq = 0 ∨ iq = 1 ∨ iq = 2 ∨ iq = 3 ∨ iq = 4 ∨ iq = 5 ∨ iq = 6 ∨ iq = 7 ∨ iq = 8 ∨ iq = 9 ∨ iq = 10 ∨ iq = 11 by omega) with rfl | rfl | rfl | rfl | rfl | rfl | rfl | rfl | rfl | rfl | rfl | rfl
                      · cases ho
                        simp only [Act.put, List.setIfInBounds_toArray, List.set_cons_zero, List.set_cons_succ] at hK
                        clear hs
                        go_simp
                        all_goals first | with_reducible exact hK.out _ _ rfl (bl_trans hg (bl_refl _)) | exact hK.out _ _ rfl hg
                      · cases ho
                        simp only [Act.put, List.setIfInBounds_toArray, List.set_cons_zero, List.set_cons_succ] at hK
                        clear hs
                        go_simp
                        all_goals first | with_reducible exact hK.out _ _ rfl (bl_trans hg (bl_refl _)) | exact hK.out _ _ rfl hg
                      · cases ho
                        simp only [Act.put, List.setIfInBounds_toArray, List.set_cons_zero, List.set_cons_succ] at hK
                        clear hs
                        go_simp
                        all_goals first | with_reducible exact hK.out _ _ rfl (bl_trans hg (bl_refl _)) | exact hK.out _ _ rfl hg
                      · cases ho
                        have e1 : s 1 = _ := hs 1 (by decide) (by kernel_rfl)
                        have e2 : s 2 = _ := hs 2 (by decide) (by kernel_rfl)
                        simp only [e1, e2] at hK ⊢
                        simp only [Act.put, List.setIfInBounds_toArray, List.set_cons_zero, List.set_cons_succ] at hK
                        clear hs
                        go_simp
                        all_goals first | with_reducible exact hK.out _ _ rfl (bl_trans hg (bl_refl _)) | exact hK.out _ _ rfl hg
                      · cases ho
                        have e3 : s 3 = _ := hs 3 (by decide) (by kernel_rfl)
                        simp only [e3] at hK ⊢
                        simp only [Act.put, List.setIfInBounds_toArray, List.set_cons_zero, List.set_cons_succ] at hK
                        clear hs
                        go_simp
                        all_goals first | with_reducible exact hK.out _ _ rfl (bl_trans hg (bl_refl _)) | exact hK.out _ _ rfl hg
                      · cases ho
                        have e0 : s 0 = _ := hs 0 (by decide) (by kernel_rfl)
                        have e4 : s 4 = _ := hs 4 (by decide) (by kernel_rfl)
                        simp only [e0, e4] at hK ⊢
                        simp only [Act.put, List.setIfInBounds_toArray, List.set_cons_zero, List.set_cons_succ] at hK
                        clear hs
                        go_simp
                        all_goals first | with_reducible exact hK.out _ _ rfl (bl_trans hg (bl_refl _)) | exact hK.out _ _ rfl hg
                      · cases ho
                        have e5 : s 5 = _ := hs 5 (by decide) (by kernel_rfl)
                        simp only [e5] at hK ⊢
                        simp only [Act.put, List.setIfInBounds_toArray, List.set_cons_zero, List.set_cons_succ] at hK
                        clear hs
                        go_simp
                        all_goals first | with_reducible exact hK.out _ _ rfl (bl_trans hg (bl_refl _)) | exact hK.out _ _ rfl hg
                      · cases ho
                        simp only [Act.put, List.setIfInBounds_toArray, List.set_cons_zero, List.set_cons_succ] at hK
                        clear hs
                        go_simp
                        all_goals first | with_reducible exact hK.out _ _ rfl (bl_trans hg (bl_refl _)) | exact hK.out _ _ rfl hg
                      · cases ho
                        simp only [Act.put, List.setIfInBounds_toArray, List.set_cons_zero, List.set_cons_succ] at hK
                        clear hs
                        go_simp
                        all_goals first | with_reducible exact hK.out _ _ rfl (bl_trans hg (bl_refl _)) | exact hK.out _ _ rfl hg
                      · cases ho
                        have e7 : s 7 = _ := hs 7 (by decide) (by kernel_rfl)
                        have e8 : s 8 = _ := hs 8 (by decide) (by kernel_rfl)
                        simp only [e7, e8] at hK ⊢
                        simp only [Act.put, List.setIfInBounds_toArray, List.set_cons_zero, List.set_cons_succ] at hK
                        clear hs
                        go_simp
                        all_goals first | with_reducible exact hK.out _ _ rfl (bl_trans hg (bl_refl _)) | exact hK.out _ _ rfl hg
                      · cases ho
                        have e9 : s 9 = _ := hs 9 (by decide) (by kernel_rfl)
                        simp only [e9] at hK ⊢
                        simp only [Act.put, List.setIfInBounds_toArray, List.set_cons_zero, List.set_cons_succ] at hK
                        clear hs
                        go_simp
                        all_goals first | with_reducible exact hK.out _ _ rfl (bl_trans hg (bl_refl _)) | exact hK.out _ _ rfl hg
                      · cases ho
                        have e6 : s 6 = _ := hs 6 (by decide) (by kernel_rfl)
                        have e10 : s 10 = _ := hs 10 (by decide) (by kernel_rfl)
                        simp only [e6, e10] at hK ⊢
                        simp only [Act.put, List.setIfInBounds_toArray, List.set_cons_zero, List.set_cons_succ] at hK
                        clear hs
                        go_simp
                        all_goals first | with_reducible exact hK.out _ _ rfl (bl_trans hg (bl_refl _)) | exact hK.out _ _ rfl hg
                    case ht_qb =>
                      intro s hs W hg
                      have e0 : s 0 = _ := hs 0 (by decide)
                      have e1 : s 1 = _ := hs 1 (by decide)
                      have e2 : s 2 = _ := hs 2 (by decide)
                      have e3 : s 3 = _ := hs 3 (by decide)
                      have e4 : s 4 = _ := hs 4 (by decide)
                      have e5 : s 5 = _ := hs 5 (by decide)
                      have e6 : s 6 = _ := hs 6 (by decide)
                      have e7 : s 7 = _ := hs 7 (by decide)
                      have e8 : s 8 = _ := hs 8 (by decide)
                      have e9 : s 9 = _ := hs 9 (by decide)
                      have e10 : s 10 = _ := hs 10 (by decide)
                      have e11 : s 11 = _ := hs 11 (by decide)
                      simp only [e0, e1, e2, e3, e4, e5, e6, e7, e8, e9, e10, e11]
                      clear hs e0 e1 e2 e3 e4 e5 e6 e7 e8 e9 e10 e11
                      have hIW := hI.bel hg
                      have kj := keep hg kj0
                      have kf := keep hg kf0
                      have fj := hIW.fr j hlt
                      repeat (first | go_values | go_skip | go_guarded | go_step | go_upon | go_back | dsimp only)
                      refine ⟨⟨j + 1, by omega, by first | go_num | rfl, bel_set1 (bl_trans hB hg) (Nat.le_refl _), by rw [size_set]; have := hg.size; omega, true, updN f j (f (f j)), by first | rfl | trivial, by rw [← nI_upd]; exact hIW.set hlt, upd_le hle (Nat.le_trans (hle _) (hle j)), fun z hz => ?_, fun _ => ?_, fun h => (by cases h)⟩, by simp [intOf]; omega⟩
                      · by_cases e : z = j
                        · subst e; rw [upd_self]; exact (hcon z hz).trans (hcon (f z) (Nat.lt_of_le_of_lt (hle z) hz))
                        · rw [upd_ne e]; exact hcon z hz
                      · exact Nat.lt_of_lt_of_le (sum_lt hlt (by have := hle (f j); omega)) hsl
                · have hjn : j = n := by omega
                  subst hjn
                  repeat (first | go_values | go_skip | go_guarded | go_step | go_upon | go_back | dsimp only)
                  refine ⟨⟨b, f, by first | rfl | trivial, hB, hz2, hI, hle, hcon, fun h q hq => by rw [(hbf h).1]; exact (hbf h).2 q hq⟩, ?_⟩
                  rw [sum_cell hI]
                  cases b
                  · rw [(hbf rfl).1]; simp [boolN]
                  · have := hbt rfl; simp [boolN]; omega

end Go.Proofs.Ytmphpmkhddnfdaa
