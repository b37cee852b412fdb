/-
  What each function of package sweep answers, and what the reference of its chapter answers: one contract a function, for every list of boxes; of the memory that was there nothing has turned.
-/
import Derived.Test.YtekhnolpgoejdaaGreatGb
import Derived.Test.YtekhnolpgoejdaaGreatBprog
import Derived.Test.YtekhnolpgoejdaaGreatBel
import Derived.Test.YtekhnolpgoejdaaGreatSwq
import Derived.Below
import Derived.BigQuiet
import Derived.OwnWalk
import Derived.Laws.AppendOwn
import Derived.Laws.AppendOwnNone
import Derived.WalkKit
import Derived.WalkLawsBesides
import Derived.WalkSpells
import Derived.ProofKit
import Derived.OpenShut
import Derived.Deep.RegionHeld3
import Derived.Deep.LoopGhost
namespace Go.Proofs.YtekhnolpgoejdaaGreat
open Go.ChangeShapes Go.WideShapes Go.ChangeAt Go.RowKit Go.Shelf Go.Lib Go.Sort
set_option linter.unusedVariables false
set_option linter.unusedSimpArgs false


theorem may_s (b : Bo) (w : World) : Calls Tryz.prog 73 #[.agg #[.float .f64 b.1, .float .f64 b.2.1, .float .f64 b.2.2.1, .float .f64 b.2.2.2]] w fun e w' => e = .returned (.bool (mayO b)) ∧ Bel w w' := by
  have h := chk_may b
  go_enter Tryz.func73, Tryz.ntmps73
  go_wp2_with (first | (go_at_call 20; (with_reducible refine (xCheck_any _ _ _ _ _).mono ?_); rintro e w' ⟨rfl, hb⟩))
  go_ret
  exact ⟨rfl, bl_trans (bl_alloc (bl_refl _) _ _) hb⟩

set_option maxRecDepth 100000 in
set_option maxHeartbeats 4000000 in
theorem nums_may (b off n cap : Nat) (B : Nat → Bo)  (w : World) (hB0 : Bs w b off n B) (hn : n ≤ 16384) :
    Calls Tryz.prog 72 #[.slice (some ⟨b, off, none⟩) n cap, .func (.func 73) #[] #[]] w fun e w' => ∃ v, e = .returned v ∧ OwnR 1 w.heap.size w' v (nums (fun i => mayO (B i)) n).length (iRow (nums (fun i => mayO (B i)) n)) ∧ Bel w w' := by
  obtain ⟨p, hp⟩ : ∃ p : Nat → Bool, p = fun i => mayO (B i) := ⟨_, rfl⟩
  rw [← hp]
  have hpi : ∀ i, p i = (mayO (B i)) := fun i => by rw [hp]
  clear hp
  go_enter Tryz.func72, Tryz.ntmps72
  go_wp2
  go_loopg [5, 9] n (fun kx s5 s9 wr => ∃ k : Nat, s9 = .int .i64 k ∧ k ≤ n ∧ n - k ≤ kx ∧ OwnR 1 w.heap.size wr s5 (nums p k).length (iRow (nums p k)) ∧ Bel w wr)
  case atStart => exact ⟨0, rfl, by omega, by omega, OwnR.nil _ _ _, bl_refl _⟩
  case round =>
    obtain ⟨k, rfl, hk, hkx, hO, hW⟩ := hrel
    by_cases hlt : k < n
    · have hltz : (k : Int) < (n : Int) := by omega
      have hwk : IntKind.wrap .i64 ((k : Int) + 1) = (k : Int) + 1 := by rw [IntKind.wrap_i64]; omega
      obtain ⟨x0, x1, x2, x3⟩ := (hB0.bel hW) k hlt
      have nl := nums_len p k
      cases hpk' : p k with
      | true =>
        have hpk := hpk'
        rw [hpi k] at hpk
        have HP : Hid (p k = true) := hpk'
        clear hpk'
        go_wp2_with (first | (go_at_call 73; (with_reducible refine (may_s (B k) _).mono ?_); rintro e w' ⟨rfl, hb⟩; rw [hpk]; have hO' := (hO.bel hb).bel (bl_alloc (bl_refl w') #[.int .i64 (k : Int)] 3); have hsz := hb.size; have hsw := hW.size) | (at_builtin; refine wpList_appR (P := Tryz.prog) (sz := 1) (by_ := 8) (R := iRow (nums p k)) (N := [.int .i64 (k : Int)]) 38 3 rfl _ _ rfl Tryz.underlying38 info_int rfl rfl _ 0 1 1 rfl hO' rfl (mk_rw _ [.int .i64 (k : Int)] 3) (by intro u hu; simp only [List.mem_cons, List.not_mem_nil, or_false] at hu; subst hu; rfl) (by decide) (by simp only [World.size_alloc]; omega) (by unfold maxLen; omega) (by omega) ?_; intro v2 w2 hO2 hv2 hb2; have B2 := hb2 w (bl_alloc (bl_trans hW hb) _ _) (Nat.le_refl _)))
        go_roundg (n - (k + 1))
        case measure => omega
        case rel => exact ⟨k + 1, by go_num, by omega, Nat.le_refl _, by rw [nums_yes HP.out, List.length_append, iRow_app]; exact hO2, B2⟩
      | false =>
        have hpk := hpk'
        rw [hpi k] at hpk
        have HP : Hid (p k = false) := hpk'
        clear hpk'
        go_wp2_with (first | (go_at_call 73; (with_reducible refine (may_s (B k) _).mono ?_); rintro e w' ⟨rfl, hb⟩; rw [hpk]))
        go_roundg (n - (k + 1))
        case measure => omega
        case rel => exact ⟨k + 1, by go_num, by omega, Nat.le_refl _, by rw [nums_no HP.out]; exact hO.bel hb, bl_trans hW hb⟩
    · have hltz : ¬ (k : Int) < (n : Int) := by omega
      have hkn : k = n := by omega
      subst hkn
      go_wp2
      go_ret
      exact ⟨_, rfl, hO, hW⟩
set_option maxRecDepth 100000 in
set_option maxHeartbeats 4000000 in
theorem nums_may0 (sa : Option Addr) (cap : Nat) (p : Nat → Bool)  (w : World) :
    Calls Tryz.prog 72 #[.slice sa 0 cap, .func (.func 73) #[] #[]] w fun e w' => ∃ v, e = .returned v ∧ OwnR 1 w.heap.size w' v (nums p 0).length (iRow (nums p 0)) ∧ Bel w w' := by
  go_enter Tryz.func72, Tryz.ntmps72
  go_wp2
  go_loopg [5, 9] 0 (fun kx s5 s9 wr => s5 = .slice none 0 0 ∧ s9 = .int .i64 0 ∧ Bel w wr)
  case atStart => exact ⟨rfl, rfl, bl_refl _⟩
  case round =>
    obtain ⟨rfl, rfl, hW⟩ := hrel
    go_wp2
    go_ret
    exact ⟨_, rfl, OwnR.nil _ _ _, hW⟩

/-- a box that lies in a block of its own -/
def Bk (w : World) (q : Nat) (y : Bo) : Prop := w.cell? ⟨q, 0, none⟩ = some (.float .f64 y.1) ∧ w.cell? ⟨q, 1, none⟩ = some (.float .f64 y.2.1) ∧ w.cell? ⟨q, 2, none⟩ = some (.float .f64 y.2.2.1) ∧ w.cell? ⟨q, 3, none⟩ = some (.float .f64 y.2.2.2)
theorem Bk.bel {w w' : World} {q : Nat} {y : Bo} (h : Bk w q y) (g : Bel w w') : Bk w' q y := ⟨keepB g h.1, keepB g h.2.1, keepB g h.2.2.1, keepB g h.2.2.2⟩
theorem nums_me {B : Nat → Bo} {y : Bo} {n : Nat} (h : mayO y = true) : nums (fun i => mayO (B i) && ovO (B i) y) n = nums (fun i => meO (B i) y) n := by
  unfold nums meO; congr 1; funext i; rw [h, Bool.and_true]
theorem nums_me0 {B : Nat → Bo} {y : Bo} {n : Nat} (h : mayO y = false) : nums (fun i => meO (B i) y) n = [] := by
  unfold nums meO; rw [List.filter_eq_nil_iff]; intro i _; rw [h]; simp

end Go.Proofs.YtekhnolpgoejdaaGreat
