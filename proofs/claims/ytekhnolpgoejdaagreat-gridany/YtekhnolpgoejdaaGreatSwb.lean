/-
  What each function of package sweep answers, and what the reference of its chapter answers: one contract a function, for every list of boxes; of the memory that was there nothing has turned.
-/
import Derived.Test.YtekhnolpgoejdaaGreatSwa
import Derived.Test.YtekhnolpgoejdaaGreatSte
import Derived.Test.YtekhnolpgoejdaaGreatSwq
import Derived.Below
import Derived.BigQuiet
import Derived.OwnWalk
import Derived.Laws.AppendOwn
import Derived.Laws.AppendOwnNone
import Derived.WalkKit
import Derived.WalkLawsBesides
import Derived.WalkSpells
import Derived.ProofKit
import Derived.OpenShut
import Derived.Deep.RegionHeld3
import Derived.Deep.LoopGhost
namespace Go.Proofs.YtekhnolpgoejdaaGreat
open Go.ChangeShapes Go.WideShapes Go.ChangeAt Go.RowKit Go.Shelf Go.Lib Go.Sort
set_option linter.unusedVariables false
set_option linter.unusedSimpArgs false


theorem isNaN_no (x : Nat) (w : World) (h : nanK .f64 x = false) : Calls Tryz.prog 108 #[.float .f64 x] w fun e w' => e = .returned (.bool false) ∧ w' = w := by
  have c1 := cmp_ne .f64
  have e1 : eqK .f64 x x = true := by unfold eqK; rw [h]; simp
  go_enter Tryz.func108, Tryz.ntmps108
  go_wp2
  go_ret
  exact ⟨rfl, rfl⟩
def c3 (x y : Nat) : Int := if ltK .f64 x y then -1 else if ltK .f64 y x then 1 else 0
theorem compare_d (x y : Nat) (w : World) (hx : nanK .f64 x = false) (hy : nanK .f64 y = false) : Calls Tryz.prog 76 #[.float .f64 x, .float .f64 y] w fun e w' => e = .returned (.int .i64 (c3 x y)) ∧ w' = w := by
  have c1 := cmp_lt .f64
  have c2 := cmp_gt .f64
  cases h1 : ltK .f64 x y
  · cases h2 : ltK .f64 y x
    all_goals
      go_enter Tryz.func76, Tryz.ntmps76
      go_wp2_with (first | (go_at_call 108; refine (isNaN_no _ _ (by assumption)).mono ?_; rintro e w' ⟨rfl, rfl⟩))
      go_ret
      exact ⟨by unfold c3; rw [h1, h2]; rfl, rfl⟩
  · go_enter Tryz.func76, Tryz.ntmps76
    go_wp2_with (first | (go_at_call 108; refine (isNaN_no _ _ (by assumption)).mono ?_; rintro e w' ⟨rfl, rfl⟩))
    go_ret
    exact ⟨by unfold c3; rw [h1]; rfl, rfl⟩
theorem c3_cfX {B : Nat → Bo} {i k : Nat} (hi : mayO (B i) = true) (hk : mayO (B k) = true) : c3 (B i).1 (B k).1 = cfX B i k := by
  unfold c3 cfX; rw [lt_kX hi hk, lt_kX hk hi]; simp only [decide_eq_true_eq]
set_option maxRecDepth 100000 in
set_option maxHeartbeats 4000000 in
theorem order1_s (b off n cap q i k : Nat) (B : Nat → Bo) (w : World) (hq : w.cell? ⟨q, 0, none⟩ = some (.slice (some ⟨b, off, none⟩) n cap)) (hx : w.cell? ⟨b, off + i * 4, none⟩ = some (.float .f64 (B i).1)) (hy : w.cell? ⟨b, off + k * 4, none⟩ = some (.float .f64 (B k).1)) (hi : i < n) (hk : k < n) (mi : mayO (B i) = true) (mk : mayO (B k) = true) :
    Calls Tryz.prog 75 #[.int .i64 (i : Int), .int .i64 (k : Int), .pointer (some ⟨q, 0, none⟩)] w fun e w' => e = .returned (.int .i64 (cfX B i k)) ∧ ∃ m, w' = w.drewN m := by
  have hc := compare_d (B i).1 (B k).1 w (may_nan mi).1 (may_nan mk).1
  have hcm : ∀ m, Calls Tryz.prog 76 #[.float .f64 (B i).1, .float .f64 (B k).1] (w.drewN m) fun e w' => e = .returned (.int .i64 (cfX B i k)) ∧ w' = w.drewN m := fun m => by rw [← c3_cfX mi mk]; exact compare_d _ _ _ (may_nan mi).1 (may_nan mk).1
  have i1 : (i : Int) < (n : Int) := by omega
  have k1 : (k : Int) < (n : Int) := by omega
  generalize cfX B i k = r at hcm ⊢
  clear hc mi mk
  go_enter Tryz.func75, Tryz.ntmps75
  go_wp2
  go_quiet (first | (go_at_call 76; exact Calls.quiet_of_same (hcm _)))
  go_wp2
  go_ret
  exact ⟨rfl, _, rfl⟩

theorem oneM (B : Nat → Bo) (n : Nat) : OneCell (encM B n) := fun x => rfl

set_option maxRecDepth 100000 in
set_option maxHeartbeats 4000000 in
theorem nums_none (sa : Option Addr) (cap : Nat) (F : Value) (w : World) :
    Calls Tryz.prog 72 #[.slice sa 0 cap, F] w fun e w' => e = .returned (.slice none 0 0) ∧ Bel w w' := by
  go_enter Tryz.func72, Tryz.ntmps72
  go_wp2
  go_loopg [5, 9] 0 (fun kx s5 s9 wr => s5 = .slice none 0 0 ∧ s9 = .int .i64 0 ∧ Bel w wr)
  case atStart => exact ⟨rfl, rfl, bl_refl _⟩
  case round =>
    obtain ⟨rfl, rfl, hW⟩ := hrel
    go_wp2
    go_ret
    exact ⟨rfl, hW⟩

theorem ins_0 (sa : Option Addr) (cap : Nat) (F : Value) (w : World) : Calls Tryz.prog 120 #[.slice sa 0 cap, .int .i64 0, .int .i64 0, F] w fun e w' => e = .returned (.tuple #[]) ∧ w' = w := by
  go_enter Tryz.func120, Tryz.ntmps120
  go_wp2
  go_loopg [8] 0 (fun kx s8 wr => s8 = .int .i64 1 ∧ wr = w)
  case atStart => exact ⟨rfl, rfl⟩
  case round =>
    obtain ⟨rfl, rfl⟩ := hrel
    go_wp2
    go_end0
    exact ⟨rfl, rfl⟩
theorem stable_0 (sa : Option Addr) (cap : Nat) (F : Value) (w : World) : Calls Tryz.prog 107 #[.slice sa 0 cap, .int .i64 0, F] w fun e w' => e = .returned (.tuple #[]) ∧ w' = w := by
  go_enter Tryz.func107, Tryz.ntmps107
  go_wp2
  go_loopg [7, 8] 0 (fun kx s7 s8 wr => s7 = .int .i64 0 ∧ s8 = .int .i64 20 ∧ wr = w)
  case atStart => exact ⟨rfl, rfl, rfl⟩
  case round =>
    obtain ⟨rfl, rfl, hW0⟩ := hrel
    go_wp2_with (first | (go_at_call 120; (with_reducible refine (ins_0 _ _ _ _).mono ?_); rintro e w1 ⟨rfl, hw1⟩; have hW1 := hw1; clear hw1 hW0))
    go_loopg [6] 0 (fun kx s6 wr2 => s6 = .int .i64 20 ∧ wr2 = w)
    case atStart => exact ⟨rfl, rfl⟩
    case round =>
      obtain ⟨rfl, hW2⟩ := hrel
      go_wp2
      go_end0
      exact ⟨rfl, rfl⟩
theorem sort_0 (sa : Option Addr) (cap : Nat) (F : Value) (w : World) : Calls Tryz.prog 74 #[.slice sa 0 cap, F] w fun e w' => e = .returned (.tuple #[]) ∧ w' = w := by
  go_enter Tryz.func74, Tryz.ntmps74
  go_wp2_with (first | (go_at_call 107; (with_reducible refine (stable_0 _ _ _ _).mono ?_); rintro e w' ⟨rfl, rfl⟩))
  go_end0
  exact ⟨rfl, rfl⟩
theorem sort_row (b off n cap q : Nat) (B : Nat → Bo) (base : Nat) (v : Value) (w : World) (hB : Bs w b off n B) (hq : w.cell? ⟨q, 0, none⟩ = some (.slice (some ⟨b, off, none⟩) n cap)) (hO : OwnR 1 base w v (nums (fun i => mayO (B i)) n).length (iRow (nums (fun i => mayO (B i)) n))) (hqb : q < base) (hbb : b < base) (hn : n ≤ 16384) :
    Calls Tryz.prog 74 #[v, .func (.func 75) #[] #[.pointer (some ⟨q, 0, none⟩)]] w fun e w' => e = .returned (.tuple #[]) ∧ ∃ O, OrdL B n O ∧ OwnR 1 base w' v (O).length (iRow (O)) ∧ Below base w w' ∧ (O = [] → Bel w w') := by
  have hmem : ∀ i ∈ nums (fun i => mayO (B i)) n, i < n ∧ mayO (B i) = true := fun i hi => nums_mem.1 hi
  have hnl := nums_len (fun i => mayO (B i)) n
  rcases own_split hO (by decide) with ⟨h0, sa, cp, rfl⟩ | ⟨h0, g, cp, rfl, hg, hgs, hcp⟩
  · refine (sort_0 sa cp _ w).mono ?_
    rintro e w' ⟨rfl, rfl⟩
    have e0 : nums (fun i => mayO (B i)) n = [] := List.eq_nil_of_length_eq_zero h0
    refine ⟨rfl, [], ⟨List.Pairwise.nil, fun i => ?_, Nat.zero_le _⟩, ?_, Below.refl _ _, fun _ => bl_refl _⟩
    · rw [← nums_mem (p := fun i => mayO (B i)), e0]
    · rw [e0] at hO; exact hO
  · obtain ⟨ml, hml⟩ := withP (fun i => i < n ∧ mayO (B i) = true) _ hmem
    obtain ⟨x0, hx0⟩ : ∃ x0 : Mb B n, x0 ∈ ml := by
      cases ml with
      | nil => rw [← hml] at h0; simp at h0
      | cons a l => exact ⟨a, List.mem_cons_self ..⟩
    haveI : Inhabited (Mb B n) := ⟨x0⟩
    have hlen : ml.length = (nums (fun i => mayO (B i)) n).length := by rw [← hml, List.length_map]
    have hO1 : OwnR 1 base w (.slice (some ⟨g, 0, none⟩) (nums (fun i => mayO (B i)) n).length cp) (nums (fun i => mayO (B i)) n).length (ml.toArray.toList.map (encM B n)) := by
      have : ml.toArray.toList.map (encM B n) = iRow (nums (fun i => mayO (B i)) n) := by rw [List.toList_toArray, map_enc, hml]
      rw [this]; exact hO
    have hH := own_holds hO1
    have hcmp : CmpLays1 Tryz.prog 75 #[.pointer (some ⟨q, 0, none⟩)] (encM B n) (fun x y : Mb B n => cfX B x.1 y.1) g 0 ml.toArray.size w := fun m os dk hs x y => by
      have hx := sort_cell (enc := encM B n) (off := 0) (m := m) (dk := dk) (os := os) (show b ≠ g by omega) (hB x.1 x.2.1).1
      have hy := sort_cell (enc := encM B n) (off := 0) (m := m) (dk := dk) (os := os) (show b ≠ g by omega) (hB y.1 y.2.1).1
      have hq' := sort_cell (enc := encM B n) (off := 0) (m := m) (dk := dk) (os := os) (show q ≠ g by omega) hq
      refine (order1_s b off n cap q x.1 y.1 B _ hq' hx hy x.2.1 y.2.1 x.2.2 y.2.2).mono ?_
      rintro e w' ⟨rfl, mm, rfl⟩
      exact ⟨rfl, mm, #[], by rw [grow_empty]⟩
    have hd : ml.toArray.toList.map (·.1) = nums (fun i => mayO (B i)) n := by rw [List.toList_toArray]; exact hml
    have key := sortStable_s (encM B n) (fun x y : Mb B n => cfX B x.1 y.1) 75 #[.pointer (some ⟨q, 0, none⟩)] g 0 cp (nums (fun i => mayO (B i)) n).length ml.toArray w (oneM B n) hH hgs (by rw [List.size_toArray]; exact hlen) (by omega) (enters_of Tryz.func75 (by kernel_rfl) rfl) hcmp swo_cfX (·.1) insL (fun i j hij hj => by
      have hjl : j < ml.length := by omega
      rw [getElem!_pos _ i (by rw [List.size_toArray]; omega), getElem!_pos _ j (by rw [List.size_toArray]; omega)]
      have := List.pairwise_iff_getElem.1 (nums_lt (fun i => mayO (B i)) n) i j (by omega) hj hij
      simp only [← hml, List.getElem_map] at this
      simpa using this)
    refine key.mono ?_
    rintro e w' ⟨rfl, d', hp, hs, m, os, rfl⟩
    have hds : d'.size = ml.toArray.size := hp.1
    have hO2 := sort_own (m := m) (os := os) hO1 (d := d') (by rw [List.length_map, Array.length_toList, hds]) hgs hH hds
    have hord := ord_of_sort hd (by rw [List.size_toArray]; exact hlen) hp hs
    rw [map_enc] at hO2
    have hl0 : (d'.toList.map (·.1)).length = (nums (fun i => mayO (B i)) n).length := by rw [List.length_map, Array.length_toList, hds, List.size_toArray, hlen]
    refine ⟨rfl, _, hord, ?_, sort_below hg hgs, fun e => absurd hl0 (by rw [e]; simp only [List.length_nil]; omega)⟩
    have hl : (d'.toList.map (·.1)).length = (nums (fun i => mayO (B i)) n).length := by rw [List.length_map, Array.length_toList, hds, List.size_toArray, hlen]
    rw [hl]; exact hO2

set_option maxRecDepth 100000 in
set_option maxHeartbeats 4000000 in
theorem ord_s (b off n cap : Nat) (B : Nat → Bo) (w : World) (hB0 : Bs w b off n B) (hn : n ≤ 16384) (hb0 : b < w.heap.size) :
    Calls Tryz.prog 45 #[.slice (some ⟨b, off, none⟩) n cap] w fun e w' => ∃ v O, e = .returned (.tuple #[v, .int .i64 0]) ∧ OrdL B n O ∧ OwnR 1 w.heap.size w' v (O).length (iRow (O)) ∧ Below w.heap.size w w' ∧ (O = [] → Bel w w') := by
  have B0 := bl_alloc (bl_refl w) #[.slice (some ⟨b, off, none⟩) n cap] 22
  have a0 : (w.alloc (.cells #[.slice (some ⟨b, off, none⟩) n cap] 22)).cell? ⟨w.heap.size, 0, none⟩ = some (.slice (some ⟨b, off, none⟩) n cap) := by rw [World.cell?_alloc_new]; rfl
  have hn1 : ¬ (16384 : Int) < (n : Int) := by omega
  go_enter Tryz.func45, Tryz.ntmps45
  go_wp2_with (first | (go_at_call 72; (with_reducible refine (nums_may b off n cap B _ (hB0.bel B0) hn).mono ?_); rintro e w1 ⟨v, rfl, hO, hb⟩; have hq := keepB hb a0; have B1 := bl_trans B0 hb; have hsz : (w.alloc (.cells #[.slice (some ⟨b, off, none⟩) n cap] 22)).heap.size = w.heap.size + 1 := World.size_alloc _ _; rw [hsz] at hO) | (go_at_call 74; (with_reducible refine (sort_row b off n cap w.heap.size B (w.heap.size + 1) v w1 (hB0.bel B1) hq hO (by omega) (by omega) hn).mono ?_); rintro e w2 ⟨rfl, O, hOr, hO2, hbl, hbe⟩))
  refine bodyPost_ret (v := .tuple #[v, .int .i64 0]) (by simp [results, Tryz.results45, go_sem]) rfl ?_
  exact ⟨v, O, rfl, hOr, hO2.base (by omega), B1.1.trans (hbl.mono (by omega)), fun e => bl_trans B1 (hbe e)⟩
set_option maxRecDepth 100000 in
set_option maxHeartbeats 4000000 in
theorem ord_0 (sa : Option Addr) (cap : Nat) (w : World) :
    Calls Tryz.prog 45 #[.slice sa 0 cap] w fun e w' => e = .returned (.tuple #[.slice none 0 0, .int .i64 0]) ∧ Bel w w' := by
  have B0 := bl_alloc (bl_refl w) #[.slice sa 0 cap] 22
  have a0 : (w.alloc (.cells #[.slice sa 0 cap] 22)).cell? ⟨w.heap.size, 0, none⟩ = some (.slice sa 0 cap) := by rw [World.cell?_alloc_new]; rfl
  go_enter Tryz.func45, Tryz.ntmps45
  go_wp2_with (first | (go_at_call 72; (with_reducible refine (nums_none _ _ _ _).mono ?_); rintro e w1 ⟨rfl, hb⟩; have B1 := bl_trans B0 hb) | (go_at_call 74; (with_reducible refine (sort_0 _ _ _ _).mono ?_); rintro e w2 ⟨rfl, hw⟩; rw [hw]))
  refine bodyPost_ret (v := .tuple #[.slice none 0 0, .int .i64 0]) (by simp [results, Tryz.results45, go_sem]) rfl ?_
  exact ⟨rfl, B1⟩
theorem ord_many (sa : Option Addr) (n cap : Nat) (w : World) (hn : 16384 < n) :
    Calls Tryz.prog 45 #[.slice sa n cap] w fun e w' => e = .returned (.tuple #[.slice none 0 0, .int .i64 4]) ∧ Bel w w' := by
  have hn1 : (16384 : Int) < (n : Int) := by omega
  go_enter Tryz.func45, Tryz.ntmps45
  go_wp2
  refine bodyPost_ret (v := .tuple #[.slice none 0 0, .int .i64 4]) (by simp [results, Tryz.results45, go_sem]) rfl ?_
  exact ⟨rfl, bl_alloc (bl_refl w) _ _⟩

end Go.Proofs.YtekhnolpgoejdaaGreat
