/-
  What each function of package sweep answers, and what the reference of its chapter answers: one contract a function, for every list of boxes; of the memory that was there nothing has turned.
-/
import Derived.Test.YtgcklheijcfneaaBprog
import Derived.Test.YtgcklheijcfneaaBel
import Derived.Test.YtgcklheijcfneaaSwq
import Derived.Below
import Derived.BigQuiet
import Derived.OwnWalk
import Derived.Laws.AppendOwn
import Derived.Laws.AppendOwnNone
import Derived.WalkKit
import Derived.WalkLawsBesides
import Derived.WalkSpells
import Derived.ProofKit
import Derived.OpenShut
import Derived.Deep.RegionHeld3
import Derived.Deep.LoopGhost
namespace Go.Proofs.Ytgcklheijcfneaa
open Go.ChangeShapes Go.WideShapes Go.ChangeAt Go.RowKit Go.Shelf Go.Lib Go.Sort
set_option linter.unusedVariables false
set_option linter.unusedSimpArgs false


theorem info_int : (Try.prog.info? 3).map (fun i => (i.zero, i.size, i.bytes)) = some (some (.int .i64 0), 1, 8) := by kernel_rfl
theorem info_pair : (Try.prog.info? 39).map (fun i => (i.zero, i.size, i.bytes)) = some (some (.agg #[.int .i64 0, .int .i64 0]), 2, 16) := by kernel_rfl
theorem info_box : (Try.prog.info? 27).map (fun i => (i.zero, i.size, i.bytes)) = some (some (.agg #[.float .f64 0, .float .f64 0, .float .f64 0, .float .f64 0]), 4, 32) := by kernel_rfl

theorem chk_may (b : Bo) : (chkN (bChk b.1 b.2.1 b.2.2.1 b.2.2.2) == 0) = mayO b := by
  unfold mayO chkN
  cases bChk b.1 b.2.1 b.2.2.1 b.2.2.2 <;> rfl
theorem may_s (b : Bo) (w : World) : Calls Try.prog 29 #[.agg #[.float .f64 b.1, .float .f64 b.2.1, .float .f64 b.2.2.1, .float .f64 b.2.2.2]] w fun e w' => e = .returned (.bool (mayO b)) ∧ Bel w w' := by
  have h := chk_may b
  go_enter Try.func29, Try.ntmps29
  go_wp2_with (first | (go_at_call 15; (with_reducible refine (xCheck_any _ _ _ _ _).mono ?_); rintro e w' ⟨rfl, hb⟩))
  go_ret
  exact ⟨rfl, bl_trans (bl_alloc (bl_refl _) _ _) hb⟩

set_option maxRecDepth 100000 in
set_option maxHeartbeats 4000000 in
theorem nums_may (b off n cap : Nat) (B : Nat → Bo)  (w : World) (hB0 : Bs w b off n B) (hn : n ≤ 16384) :
    Calls Try.prog 30 #[.slice (some ⟨b, off, none⟩) n cap, .func (.func 29) #[] #[]] w fun e w' => ∃ v, e = .returned v ∧ OwnR 1 w.heap.size w' v (nums (fun i => mayO (B i)) n).length (iRow (nums (fun i => mayO (B i)) n)) ∧ Bel w w' := by
  obtain ⟨p, hp⟩ : ∃ p : Nat → Bool, p = fun i => mayO (B i) := ⟨_, rfl⟩
  rw [← hp]
  have hpi : ∀ i, p i = (mayO (B i)) := fun i => by rw [hp]
  clear hp
  go_enter Try.func30, Try.ntmps30
  go_wp2
  go_loopg [5, 9] n (fun kx s5 s9 wr => ∃ k : Nat, s9 = .int .i64 k ∧ k ≤ n ∧ n - k ≤ kx ∧ OwnR 1 w.heap.size wr s5 (nums p k).length (iRow (nums p k)) ∧ Bel w wr)
  case atStart => exact ⟨0, rfl, by omega, by omega, OwnR.nil _ _ _, bl_refl _⟩
  case round =>
    obtain ⟨k, rfl, hk, hkx, hO, hW⟩ := hrel
    by_cases hlt : k < n
    · have hltz : (k : Int) < (n : Int) := by omega
      have hwk : IntKind.wrap .i64 ((k : Int) + 1) = (k : Int) + 1 := by rw [IntKind.wrap_i64]; omega
      obtain ⟨x0, x1, x2, x3⟩ := (hB0.bel hW) k hlt
      have nl := nums_len p k
      cases hpk' : p k with
      | true =>
        have hpk := hpk'
        rw [hpi k] at hpk
        have HP : Hid (p k = true) := hpk'
        clear hpk'
        go_wp2_with (first | (go_at_call 29; (with_reducible refine (may_s (B k) _).mono ?_); rintro e w' ⟨rfl, hb⟩; rw [hpk]; have hO' := (hO.bel hb).bel (bl_alloc (bl_refl w') #[.int .i64 (k : Int)] 3); have hsz := hb.size; have hsw := hW.size) | (at_builtin; refine wpList_appR (P := Try.prog) (sz := 1) (by_ := 8) (R := iRow (nums p k)) (N := [.int .i64 (k : Int)]) 33 3 rfl _ _ rfl Try.underlying33 info_int rfl rfl _ 0 1 1 rfl hO' rfl (mk_rw _ [.int .i64 (k : Int)] 3) (by intro u hu; simp only [List.mem_cons, List.not_mem_nil, or_false] at hu; subst hu; rfl) (by decide) (by simp only [World.size_alloc]; omega) (by unfold maxLen; omega) (by omega) ?_; intro v2 w2 hO2 hv2 hb2; have B2 := hb2 w (bl_alloc (bl_trans hW hb) _ _) (Nat.le_refl _)))
        go_roundg (n - (k + 1))
        case measure => omega
        case rel => exact ⟨k + 1, by go_num, by omega, Nat.le_refl _, by rw [nums_yes HP.out, List.length_append, iRow_app]; exact hO2, B2⟩
      | false =>
        have hpk := hpk'
        rw [hpi k] at hpk
        have HP : Hid (p k = false) := hpk'
        clear hpk'
        go_wp2_with (first | (go_at_call 29; (with_reducible refine (may_s (B k) _).mono ?_); rintro e w' ⟨rfl, hb⟩; rw [hpk]))
        go_roundg (n - (k + 1))
        case measure => omega
        case rel => exact ⟨k + 1, by go_num, by omega, Nat.le_refl _, by rw [nums_no HP.out]; exact hO.bel hb, bl_trans hW hb⟩
    · have hltz : ¬ (k : Int) < (n : Int) := by omega
      have hkn : k = n := by omega
      subst hkn
      go_wp2
      go_ret
      exact ⟨_, rfl, hO, hW⟩
set_option maxRecDepth 100000 in
set_option maxHeartbeats 4000000 in
theorem nums_may0 (sa : Option Addr) (cap : Nat) (p : Nat → Bool)  (w : World) :
    Calls Try.prog 30 #[.slice sa 0 cap, .func (.func 29) #[] #[]] w fun e w' => ∃ v, e = .returned v ∧ OwnR 1 w.heap.size w' v (nums p 0).length (iRow (nums p 0)) ∧ Bel w w' := by
  go_enter Try.func30, Try.ntmps30
  go_wp2
  go_loopg [5, 9] 0 (fun kx s5 s9 wr => s5 = .slice none 0 0 ∧ s9 = .int .i64 0 ∧ Bel w wr)
  case atStart => exact ⟨rfl, rfl, bl_refl _⟩
  case round =>
    obtain ⟨rfl, rfl, hW⟩ := hrel
    go_wp2
    go_ret
    exact ⟨_, rfl, OwnR.nil _ _ _, hW⟩

/-- a box that lies in a block of its own -/
def Bk (w : World) (q : Nat) (y : Bo) : Prop := w.cell? ⟨q, 0, none⟩ = some (.float .f64 y.1) ∧ w.cell? ⟨q, 1, none⟩ = some (.float .f64 y.2.1) ∧ w.cell? ⟨q, 2, none⟩ = some (.float .f64 y.2.2.1) ∧ w.cell? ⟨q, 3, none⟩ = some (.float .f64 y.2.2.2)
theorem Bk.bel {w w' : World} {q : Nat} {y : Bo} (h : Bk w q y) (g : Bel w w') : Bk w' q y := ⟨keepB g h.1, keepB g h.2.1, keepB g h.2.2.1, keepB g h.2.2.2⟩
theorem with1_s (a y : Bo) (q : Nat) (w : World) (hq : Bk w q y) : Calls Try.prog 31 #[.agg #[.float .f64 a.1, .float .f64 a.2.1, .float .f64 a.2.2.1, .float .f64 a.2.2.2], .pointer (some ⟨q, 0, none⟩)] w fun e w' => e = .returned (.bool (mayO a && ovO a y)) ∧ Bel w w' := by
  have hlq := World.block_lt_of_cell? _ _ hq.1
  have B0 := bl_alloc (bl_refl w) #[.float .f64 a.1, .float .f64 a.2.1, .float .f64 a.2.2.1, .float .f64 a.2.2.2] 27
  obtain ⟨k0, k1, k2, k3⟩ := hq.bel B0
  obtain ⟨W1, hW1⟩ : ∃ W1, W1 = w.alloc (.cells #[.float .f64 a.1, .float .f64 a.2.1, .float .f64 a.2.2.1, .float .f64 a.2.2.2] 27) := ⟨_, rfl⟩
  have a0 : W1.cell? ⟨w.heap.size, 0, none⟩ = some (.float .f64 a.1) := by rw [hW1, World.cell?_alloc_new]; rfl
  have a1 : W1.cell? ⟨w.heap.size, 1, none⟩ = some (.float .f64 a.2.1) := by rw [hW1, World.cell?_alloc_new]; rfl
  have a2 : W1.cell? ⟨w.heap.size, 2, none⟩ = some (.float .f64 a.2.2.1) := by rw [hW1, World.cell?_alloc_new]; rfl
  have a3 : W1.cell? ⟨w.heap.size, 3, none⟩ = some (.float .f64 a.2.2.2) := by rw [hW1, World.cell?_alloc_new]; rfl
  rw [hW1] at a0 a1 a2 a3
  clear hW1
  go_enter Try.func31, Try.ntmps31
  cases hm : mayO a with
  | true =>
    go_wp2_with (first | (go_at_call 29; (with_reducible refine (may_s a _).mono ?_); rintro e w' ⟨rfl, hb⟩; rw [hm]; replace k0 := keepB hb k0; replace k1 := keepB hb k1; replace k2 := keepB hb k2; replace k3 := keepB hb k3; replace a0 := keepB hb a0; replace a1 := keepB hb a1; replace a2 := keepB hb a2; replace a3 := keepB hb a3) | (go_at_call 32; (with_reducible refine (xOver_any _ _ _ _ _ _ _ _ _).mono ?_); rintro e w2 ⟨rfl, hb2⟩))
    go_ret
    exact ⟨rfl, bl_trans (bl_trans B0 hb) hb2⟩
  | false =>
    go_wp2_with (first | (go_at_call 29; (with_reducible refine (may_s a _).mono ?_); rintro e w' ⟨rfl, hb⟩; rw [hm]))
    go_ret
    exact ⟨rfl, bl_trans B0 hb⟩

set_option maxRecDepth 100000 in
set_option maxHeartbeats 4000000 in
theorem nums_with (b off n cap : Nat) (B : Nat → Bo) (q : Nat) (y : Bo) (w : World) (hB0 : Bs w b off n B) (hn : n ≤ 16384) (hq : Bk w q y) :
    Calls Try.prog 30 #[.slice (some ⟨b, off, none⟩) n cap, .func (.func 31) #[] #[.pointer (some ⟨q, 0, none⟩)]] w fun e w' => ∃ v, e = .returned v ∧ OwnR 1 w.heap.size w' v (nums (fun i => mayO (B i) && ovO (B i) y) n).length (iRow (nums (fun i => mayO (B i) && ovO (B i) y) n)) ∧ Bel w w' := by
  obtain ⟨p, hp⟩ : ∃ p : Nat → Bool, p = fun i => mayO (B i) && ovO (B i) y := ⟨_, rfl⟩
  rw [← hp]
  have hpi : ∀ i, p i = (mayO (B i) && ovO (B i) y) := fun i => by rw [hp]
  clear hp
  go_enter Try.func30, Try.ntmps30
  go_wp2
  go_loopg [5, 9] n (fun kx s5 s9 wr => ∃ k : Nat, s9 = .int .i64 k ∧ k ≤ n ∧ n - k ≤ kx ∧ OwnR 1 w.heap.size wr s5 (nums p k).length (iRow (nums p k)) ∧ Bel w wr)
  case atStart => exact ⟨0, rfl, by omega, by omega, OwnR.nil _ _ _, bl_refl _⟩
  case round =>
    obtain ⟨k, rfl, hk, hkx, hO, hW⟩ := hrel
    by_cases hlt : k < n
    · have hltz : (k : Int) < (n : Int) := by omega
      have hwk : IntKind.wrap .i64 ((k : Int) + 1) = (k : Int) + 1 := by rw [IntKind.wrap_i64]; omega
      obtain ⟨x0, x1, x2, x3⟩ := (hB0.bel hW) k hlt
      have nl := nums_len p k
      cases hpk' : p k with
      | true =>
        have hpk := hpk'
        rw [hpi k] at hpk
        have HP : Hid (p k = true) := hpk'
        clear hpk'
        go_wp2_with (first | (go_at_call 31; (with_reducible refine (with1_s (B k) y q _ (hq.bel hW)).mono ?_); rintro e w' ⟨rfl, hb⟩; rw [hpk]; have hO' := (hO.bel hb).bel (bl_alloc (bl_refl w') #[.int .i64 (k : Int)] 3); have hsz := hb.size; have hsw := hW.size) | (at_builtin; refine wpList_appR (P := Try.prog) (sz := 1) (by_ := 8) (R := iRow (nums p k)) (N := [.int .i64 (k : Int)]) 33 3 rfl _ _ rfl Try.underlying33 info_int rfl rfl _ 0 1 1 rfl hO' rfl (mk_rw _ [.int .i64 (k : Int)] 3) (by intro u hu; simp only [List.mem_cons, List.not_mem_nil, or_false] at hu; subst hu; rfl) (by decide) (by simp only [World.size_alloc]; omega) (by unfold maxLen; omega) (by omega) ?_; intro v2 w2 hO2 hv2 hb2; have B2 := hb2 w (bl_alloc (bl_trans hW hb) _ _) (Nat.le_refl _)))
        go_roundg (n - (k + 1))
        case measure => omega
        case rel => exact ⟨k + 1, by go_num, by omega, Nat.le_refl _, by rw [nums_yes HP.out, List.length_append, iRow_app]; exact hO2, B2⟩
      | false =>
        have hpk := hpk'
        rw [hpi k] at hpk
        have HP : Hid (p k = false) := hpk'
        clear hpk'
        go_wp2_with (first | (go_at_call 31; (with_reducible refine (with1_s (B k) y q _ (hq.bel hW)).mono ?_); rintro e w' ⟨rfl, hb⟩; rw [hpk]))
        go_roundg (n - (k + 1))
        case measure => omega
        case rel => exact ⟨k + 1, by go_num, by omega, Nat.le_refl _, by rw [nums_no HP.out]; exact hO.bel hb, bl_trans hW hb⟩
    · have hltz : ¬ (k : Int) < (n : Int) := by omega
      have hkn : k = n := by omega
      subst hkn
      go_wp2
      go_ret
      exact ⟨_, rfl, hO, hW⟩
set_option maxRecDepth 100000 in
set_option maxHeartbeats 4000000 in
theorem nums_with0 (sa : Option Addr) (cap : Nat) (p : Nat → Bool) (q : Nat) (y : Bo) (w : World) :
    Calls Try.prog 30 #[.slice sa 0 cap, .func (.func 31) #[] #[.pointer (some ⟨q, 0, none⟩)]] w fun e w' => ∃ v, e = .returned v ∧ OwnR 1 w.heap.size w' v (nums p 0).length (iRow (nums p 0)) ∧ Bel w w' := by
  go_enter Try.func30, Try.ntmps30
  go_wp2
  go_loopg [5, 9] 0 (fun kx s5 s9 wr => s5 = .slice none 0 0 ∧ s9 = .int .i64 0 ∧ Bel w wr)
  case atStart => exact ⟨rfl, rfl, bl_refl _⟩
  case round =>
    obtain ⟨rfl, rfl, hW⟩ := hrel
    go_wp2
    go_ret
    exact ⟨_, rfl, OwnR.nil _ _ _, hW⟩

theorem nums_me {B : Nat → Bo} {y : Bo} {n : Nat} (h : mayO y = true) : nums (fun i => mayO (B i) && ovO (B i) y) n = nums (fun i => meO (B i) y) n := by
  unfold nums meO; congr 1; funext i; rw [h, Bool.and_true]
theorem nums_me0 {B : Nat → Bo} {y : Bo} {n : Nat} (h : mayO y = false) : nums (fun i => meO (B i) y) n = [] := by
  unfold nums meO; rw [List.filter_eq_nil_iff]; intro i _; rw [h]; simp
set_option maxRecDepth 100000 in
set_option maxHeartbeats 4000000 in
theorem with_s (b off n cap : Nat) (B : Nat → Bo) (y : Bo) (w : World) (hB0 : Bs w b off n B) (hn : n ≤ 16384) :
    Calls Try.prog 10 #[.slice (some ⟨b, off, none⟩) n cap, .agg #[.float .f64 y.1, .float .f64 y.2.1, .float .f64 y.2.2.1, .float .f64 y.2.2.2]] w fun e w' => ∃ v, e = .returned (.tuple #[v, .int .i64 0]) ∧ OwnR 1 w.heap.size w' v (nums (fun i => meO (B i) y) n).length (iRow (nums (fun i => meO (B i) y) n)) ∧ Bel w w' := by
  have B0 := bl_alloc (bl_refl w) #[.float .f64 y.1, .float .f64 y.2.1, .float .f64 y.2.2.1, .float .f64 y.2.2.2] 27
  obtain ⟨W1, hW1⟩ : ∃ W1, W1 = w.alloc (.cells #[.float .f64 y.1, .float .f64 y.2.1, .float .f64 y.2.2.1, .float .f64 y.2.2.2] 27) := ⟨_, rfl⟩
  have a0 : W1.cell? ⟨w.heap.size, 0, none⟩ = some (.float .f64 y.1) := by rw [hW1, World.cell?_alloc_new]; rfl
  have a1 : W1.cell? ⟨w.heap.size, 1, none⟩ = some (.float .f64 y.2.1) := by rw [hW1, World.cell?_alloc_new]; rfl
  have a2 : W1.cell? ⟨w.heap.size, 2, none⟩ = some (.float .f64 y.2.2.1) := by rw [hW1, World.cell?_alloc_new]; rfl
  have a3 : W1.cell? ⟨w.heap.size, 3, none⟩ = some (.float .f64 y.2.2.2) := by rw [hW1, World.cell?_alloc_new]; rfl
  rw [hW1] at a0 a1 a2 a3
  clear hW1
  have hn1 : ¬ (16384 : Int) < (n : Int) := by omega
  go_enter Try.func10, Try.ntmps10
  cases hm : mayO y with
  | true =>
    go_wp2_with (first | (go_at_call 29; (with_reducible refine (may_s y _).mono ?_); rintro e w1 ⟨rfl, hb⟩; rw [hm]; have hq : Bk w1 w.heap.size y := ⟨keepB hb a0, keepB hb a1, keepB hb a2, keepB hb a3⟩; have B1 := bl_trans B0 hb) | (go_at_call 30; (with_reducible refine (nums_with b off n cap B w.heap.size y _ (hB0.bel B1) hn hq).mono ?_); rintro e w2 ⟨v, rfl, hO, hb2⟩))
    refine bodyPost_ret (v := .tuple #[v, .int .i64 0]) (by simp [results, Try.results10, go_sem]) rfl ?_
    have hs := B1.size
    refine ⟨v, rfl, ?_, bl_trans B1 hb2⟩
    rw [← nums_me hm]
    exact hO.base hs
  | false =>
    go_wp2_with (first | (go_at_call 29; (with_reducible refine (may_s y _).mono ?_); rintro e w1 ⟨rfl, hb⟩; rw [hm]))
    refine bodyPost_ret (v := .tuple #[.slice none 0 0, .int .i64 0]) (by simp [results, Try.results10, go_sem]) rfl ?_
    refine ⟨_, rfl, ?_, bl_trans B0 hb⟩
    rw [nums_me0 hm]
    exact OwnR.nil _ _ _
set_option maxRecDepth 100000 in
set_option maxHeartbeats 4000000 in
theorem with_0 (sa : Option Addr) (cap : Nat) (p : Nat → Bool) (y : Bo) (w : World) :
    Calls Try.prog 10 #[.slice sa 0 cap, .agg #[.float .f64 y.1, .float .f64 y.2.1, .float .f64 y.2.2.1, .float .f64 y.2.2.2]] w fun e w' => ∃ v, e = .returned (.tuple #[v, .int .i64 0]) ∧ OwnR 1 w.heap.size w' v (nums p 0).length (iRow (nums p 0)) ∧ Bel w w' := by
  have B0 := bl_alloc (bl_refl w) #[.float .f64 y.1, .float .f64 y.2.1, .float .f64 y.2.2.1, .float .f64 y.2.2.2] 27
  go_enter Try.func10, Try.ntmps10
  cases hm : mayO y with
  | true =>
    go_wp2_with (first | (go_at_call 29; (with_reducible refine (may_s y _).mono ?_); rintro e w1 ⟨rfl, hb⟩; rw [hm]; have B1 := bl_trans B0 hb) | (go_at_call 30; (with_reducible refine (nums_with0 sa cap p w.heap.size y _).mono ?_); rintro e w2 ⟨v, rfl, hO, hb2⟩))
    refine bodyPost_ret (v := .tuple #[v, .int .i64 0]) (by simp [results, Try.results10, go_sem]) rfl ?_
    exact ⟨v, rfl, hO.base B1.size, bl_trans B1 hb2⟩
  | false =>
    go_wp2_with (first | (go_at_call 29; (with_reducible refine (may_s y _).mono ?_); rintro e w1 ⟨rfl, hb⟩; rw [hm]))
    refine bodyPost_ret (v := .tuple #[.slice none 0 0, .int .i64 0]) (by simp [results, Try.results10, go_sem]) rfl ?_
    exact ⟨_, rfl, OwnR.nil _ _ _, bl_trans B0 hb⟩
theorem with_many (sa : Option Addr) (n cap : Nat) (y : Bo) (w : World) (hn : 16384 < n) :
    Calls Try.prog 10 #[.slice sa n cap, .agg #[.float .f64 y.1, .float .f64 y.2.1, .float .f64 y.2.2.1, .float .f64 y.2.2.2]] w fun e w' => e = .returned (.tuple #[.slice none 0 0, .int .i64 4]) ∧ Bel w w' := by
  have hn1 : (16384 : Int) < (n : Int) := by omega
  go_enter Try.func10, Try.ntmps10
  go_wp2
  refine bodyPost_ret (v := .tuple #[.slice none 0 0, .int .i64 4]) (by simp [results, Try.results10, go_sem]) rfl ?_
  exact ⟨rfl, bl_alloc (bl_refl w) _ _⟩

end Go.Proofs.Ytgcklheijcfneaa
