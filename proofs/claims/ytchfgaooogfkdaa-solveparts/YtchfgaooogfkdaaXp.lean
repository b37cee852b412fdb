/-
  What each function of package poly answers, and what the reference of its chapter answers: one contract a function, for every float: the answer stands in the relation of its formula to what was given; of the memory that was there nothing has turned.
-/
import Derived.Test.YtchfgaooogfkdaaVec
import Derived.Test.YtchfgaooogfkdaaXo
import Derived.Below
import Derived.OwnWalk
import Derived.Laws.AppendOwn
import Derived.Lib.SliceRun
import Derived.Laws.MakeOwn
import Derived.WalkKit
import Derived.WalkLawsBesides
import Derived.WalkSpells
import Derived.ProofKit
import Derived.OpenShut
import Derived.Deep.RegionHeld3
namespace Go.Proofs.Ytchfgaooogfkdaa
open Go.ChangeShapes Go.WideShapes Go.ChangeAt Go.RowKit
set_option linter.unusedVariables false
set_option linter.unusedSimpArgs false


def rw21 (a b : Int) : RD := ⟨a, b, 0, 13830554455654793216, 0, 4607182418800017408, 0, 0, 0, 0, 9218868437227405312, 0, -1, 0⟩
def ps21 : SD := ⟨4607182418800017408, 4602678819172646912, 0, 13835058055282163712, 0⟩
def q21 : Nat → RD := fun _ => rw21 0 1
def s21 : Nat → SD := fun i => if i = 0 then Z5S else ps21
def q23 : Nat → RD := fun i => if i = 0 then rw21 0 1 else if i = 1 then rw21 2 3 else rw21 3 0
theorem as21 : asE q21 1 s21 2 = 0 := by decide +kernel
theorem le21 : leM q21 s21 1 = 4611686018427387904 := by decide +kernel
theorem ap21 : apB q21 1 q21 1 s21 = false := by decide +kernel
theorem cr23 : crB q23 3 1024 3 = true := by decide +kernel
theorem pk23 : pickN (ofP q23 (fun _ => 3) 1) 3 = [1, 2] := by decide +kernel
theorem it21 : ((itM q21 (fun i => tlS (s21 i)) 1 1).1 0).r11 = 4611686018427387904 ∧ ((itM q21 (fun i => tlS (s21 i)) 1 1).2 1).sy = 0 := by decide +kernel

theorem crB_of {Q : Nat → RD} {n m : Int} : ∀ {j : Nat}, (∀ k, k < j → chB (Q k) n m = true) → crB Q n m j = true
  | 0, _ => rfl
  | j + 1, h => by
    unfold crB
    rw [crB_of (fun k hk => h k (by omega)), h j (by omega)]
    rfl
theorem anyN_of {p : Nat → Bool} : ∀ {n : Nat}, (∀ i, i < n → p i = false) → anyN p n = false
  | 0, _ => rfl
  | n + 1, h => by
    unfold anyN
    rw [anyN_of (fun k hk => h k (by omega)), h n (by omega)]
    rfl
theorem asE_of {Q : Nat → RD} {n : Nat} {S : Nat → SD} {m : Nat} (h1 : n ≤ 1048576) (h2 : m ≤ 1024) (h3 : ∀ i, i < n → chB (Q i) n m = true) (h4 : ∀ i, i < m → stB (S i) = true) : asE Q n S m = 0 := by
  unfold asE
  rw [if_neg (by omega), crB_of h3, anyN_of (fun i hi => by rw [h4 i hi]; rfl)]
  rfl
theorem off_rel {T : RD} {a b m n : SD} (h : RelS a m) (g : RelS b n) : offF T a b = offF T m n := by unfold offF; rw [lk_rel h g, wt_rel h g]
theorem le_rel {Q : Nat → RD} {S M : Nat → SD} {sn : Nat} (h : ∀ i, i < sn → RelS (S i) (M i)) : ∀ {k : Nat}, (∀ i, i < k → (Q i).ra.toNat < sn ∧ (Q i).rb.toNat < sn) → leM Q S k = leM Q M k
  | 0, _ => rfl
  | k + 1, hk => by
    unfold leM
    rw [le_rel h (fun i hi => hk i (by omega)), off_rel (h _ (hk k (by omega)).1) (h _ (hk k (by omega)).2)]
theorem all21 : asE (itM q21 (fun i => tlS (s21 i)) 1 1).1 1 (itM q21 (fun i => tlS (s21 i)) 1 1).2 2 = 0 ∧ leM (itM q21 (fun i => tlS (s21 i)) 1 1).1 (itM q21 (fun i => tlS (s21 i)) 1 1).2 1 = 0 := by decide +kernel
set_option maxRecDepth 100000 in
set_option maxHeartbeats 4000000 in
theorem row_w (a b : Int) (w : World) : Calls Try.prog 43 #[.int .i64 a, .int .i64 b] w fun e w' => e = .returned (.agg #[.int .i64 a, .int .i64 b, .float .f64 0, .float .f64 13830554455654793216, .float .f64 0, .float .f64 4607182418800017408, .float .f64 0, .float .f64 0, .float .f64 0, .float .f64 0, .float .f64 9218868437227405312, .float .f64 0, .int .i64 (-1), .float .f64 0]) ∧ Bel w w' := by
  have hX : (w.alloc (.cells #[.int .i64 0, .int .i64 0, .float .f64 0, .float .f64 0, .float .f64 0, .float .f64 0, .float .f64 0, .float .f64 0, .float .f64 0, .float .f64 0, .float .f64 0, .float .f64 0, .int .i64 0, .float .f64 0] 56)).there (w.heap.size) 0 14 := there_new w [.int .i64 0, .int .i64 0, .float .f64 0, .float .f64 0, .float .f64 0, .float .f64 0, .float .f64 0, .float .f64 0, .float .f64 0, .float .f64 0, .float .f64 0, .float .f64 0, .int .i64 0, .float .f64 0] 56
  have B0 : Bel w (w.alloc (.cells #[.int .i64 0, .int .i64 0, .float .f64 0, .float .f64 0, .float .f64 0, .float .f64 0, .float .f64 0, .float .f64 0, .float .f64 0, .float .f64 0, .float .f64 0, .float .f64 0, .int .i64 0, .float .f64 0] 56)) := bl_alloc (bl_refl w) _ _
  go_enter Try.func43, Try.ntmps43
  repeat (first | ((with_reducible show Oper.wp _ { dst := some 7, op := Op.build 33 _, type := _, pos := _, after := _, guard := _ } _ _ _ _); refine wp_build 33 _ rfl (.agg #[.float .f64 0, .float .f64 13830554455654793216]) (by kernel_rfl) ?_; simp only [go_sem]) | ((with_reducible show Oper.wp _ { dst := some 8, op := Op.build 33 _, type := _, pos := _, after := _, guard := _ } _ _ _ _); refine wp_build 33 _ rfl (.agg #[.float .f64 0, .float .f64 4607182418800017408]) (by kernel_rfl) ?_; simp only [go_sem]) | (go_at_call 31; refine (inf20 _).mono ?_; rintro e w' ⟨rfl, rfl⟩) | ((with_reducible show Oper.wp _ { dst := some 10, op := Op.build 56 _, type := _, pos := _, after := _, guard := _ } _ _ _ _); refine wp_build 56 _ rfl (.agg #[.int .i64 a, .int .i64 b, .float .f64 0, .float .f64 13830554455654793216, .float .f64 0, .float .f64 4607182418800017408, .float .f64 0, .float .f64 0, .float .f64 0, .float .f64 0, .float .f64 9218868437227405312, .float .f64 0, .int .i64 (-1), .float .f64 0]) (by kernel_rfl) ?_; simp only [go_sem]) | ((with_reducible show Oper.wp _ { dst := _, op := Op.store 56 _ _, type := _, pos := _, after := _, guard := _ } _ _ _ _); refine wp_store_abs (P := Try.prog) 56 _ _ rfl (w.heap.size) 0 #[.int .i64 a, .int .i64 b, .float .f64 0, .float .f64 13830554455654793216, .float .f64 0, .float .f64 4607182418800017408, .float .f64 0, .float .f64 0, .float .f64 0, .float .f64 0, .float .f64 9218868437227405312, .float .f64 0, .int .i64 (-1), .float .f64 0] rfl rfl hX (by kernel_rfl) (by kernel_rfl) (fun V => Bel w V ∧ V.rangeAt (w.heap.size) 0 [.int .i64 a, .int .i64 b, .float .f64 0, .float .f64 13830554455654793216, .float .f64 0, .float .f64 4607182418800017408, .float .f64 0, .float .f64 0, .float .f64 0, .float .f64 0, .float .f64 9218868437227405312, .float .f64 0, .int .i64 (-1), .float .f64 0]) ⟨bel_setsJ _ _ B0 (Nat.le_refl _), World.rangeAt_setCells_same _ _ _ _ hX⟩ ?_; rintro V ⟨BV, hV⟩; simp only [go_sem]) | go_values | go_skip | go_guarded | go_step | go_upon | go_back | dsimp only)
  refine bodyPost_ret (results_c (c := 4) (ty := 56) rfl rfl (run_loadVar_mid _ (w.heap.size) 0 56 [.int .i64 a, .int .i64 b, .float .f64 0, .float .f64 13830554455654793216, .float .f64 0, .float .f64 4607182418800017408, .float .f64 0, .float .f64 0, .float .f64 0, .float .f64 0, .float .f64 9218868437227405312, .float .f64 0, .int .i64 (-1), .float .f64 0] _ hV Try.underlying56 rfl (by kernel_rfl))) rfl ?_
  exact ⟨rfl, BV⟩

end Go.Proofs.Ytchfgaooogfkdaa
