/-
  What each function of package poly answers, and what the reference of its chapter answers: one contract a function, for every float: the answer stands in the relation of its formula to what was given; of the memory that was there nothing has turned.
-/
import Derived.Test.YtcdnhkjedmmhpaaVec
import Derived.Test.YtcdnhkjedmmhpaaSla
import Derived.Below
import Derived.WalkKit
import Derived.WalkLawsBesides
import Derived.WalkSpells
import Derived.ProofKit
import Derived.OpenShut
import Derived.Deep.RegionHeld3
namespace Go.Proofs.Ytcdnhkjedmmhpaa
open Go.ChangeShapes Go.WideShapes Go.ChangeAt Go.RowKit
set_option linter.unusedVariables false
set_option linter.unusedSimpArgs false


theorem calls_belz {P : Program} {f : FuncId} {args : Array Value} {W : World} {p : BelBy W} {v : Value}
    (h : Calls P f args p.world fun e w' => e = .returned v ∧ w' = p.world) : Calls P f args p.world fun e w'' => e = .returned v ∧ ∃ q : BelBy W, w'' = q.world :=
  h.mono fun _ w' ⟨he, hb⟩ => ⟨he, p, hb⟩
theorem isBound_w (x : Nat) (w : World) : Calls Try.prog 82 #[.float .f64 x] w fun e w' => e = .returned (.bool (leK .f64 0 x && leK .f64 x 4787326403894837248)) ∧ w' = w := by
  have c1 := cmp_ge .f64
  have c2 := cmp_le .f64
  cases h1 : leK .f64 0 x
  all_goals
    go_enter Try.func82, Try.ntmps82
    repeat (first | go_values | go_skip | go_guarded | go_step | go_upon | go_back | dsimp only)
    go_ret
    exact ⟨rfl, rfl⟩
theorem one_bound (w : World) : Calls Try.prog 82 #[.float .f64 4607182418800017408] w fun e w' => e = .returned (.bool true) ∧ w' = w :=
  (isBound_w 4607182418800017408 w).mono fun e w' ⟨he, hb⟩ => ⟨by rw [he, show (leK .f64 0 4607182418800017408 && leK .f64 4607182418800017408 4787326403894837248) = true by decide +kernel], hb⟩
def csB (cs : Int) : Bool := decide (1 ≤ cs) && decide (cs ≤ 9007199254740992)
set_option maxRecDepth 100000 in
set_option maxHeartbeats 4000000 in
theorem areCalm_w (cs : Int) (w : World) : Calls Try.prog 50 #[.agg #[.float .f64 0, .float .f64 0, .float .f64 0, .int .i64 0, .float .f64 0, .float .f64 0, .float .f64 0, .float .f64 4607182418800017408, .float .f64 4607182418800017408, .int .i64 cs]] w fun e w' => e = .returned (.bool (csB cs)) ∧ Bel w w' := by
  have hA : (w.alloc (.cells #[.float .f64 0, .float .f64 0, .float .f64 0, .int .i64 0, .float .f64 0, .float .f64 0, .float .f64 0, .float .f64 4607182418800017408, .float .f64 4607182418800017408, .int .i64 cs] 26)).rangeAt w.heap.size 0 [.float .f64 0, .float .f64 0, .float .f64 0, .int .i64 0, .float .f64 0, .float .f64 0, .float .f64 0, .float .f64 4607182418800017408, .float .f64 4607182418800017408, .int .i64 cs] := rng_new w [.float .f64 0, .float .f64 0, .float .f64 0, .int .i64 0, .float .f64 0, .float .f64 0, .float .f64 0, .float .f64 4607182418800017408, .float .f64 4607182418800017408, .int .i64 cs] 26
  have hA7 : (w.alloc (.cells #[.float .f64 0, .float .f64 0, .float .f64 0, .int .i64 0, .float .f64 0, .float .f64 0, .float .f64 0, .float .f64 4607182418800017408, .float .f64 4607182418800017408, .int .i64 cs] 26)).cell? ⟨w.heap.size, 7, none⟩ = some (.float .f64 4607182418800017408) := by have h := hA 7 _ rfl; rwa [Nat.zero_add] at h
  have hA8 : (w.alloc (.cells #[.float .f64 0, .float .f64 0, .float .f64 0, .int .i64 0, .float .f64 0, .float .f64 0, .float .f64 0, .float .f64 4607182418800017408, .float .f64 4607182418800017408, .int .i64 cs] 26)).cell? ⟨w.heap.size, 8, none⟩ = some (.float .f64 4607182418800017408) := by have h := hA 8 _ rfl; rwa [Nat.zero_add] at h
  have hA9 : (w.alloc (.cells #[.float .f64 0, .float .f64 0, .float .f64 0, .int .i64 0, .float .f64 0, .float .f64 0, .float .f64 0, .float .f64 4607182418800017408, .float .f64 4607182418800017408, .int .i64 cs] 26)).cell? ⟨w.heap.size, 9, none⟩ = some (.int .i64 cs) := by have h := hA 9 _ rfl; rwa [Nat.zero_add] at h
  have B0 : Bel w (w.alloc (.cells #[.float .f64 0, .float .f64 0, .float .f64 0, .int .i64 0, .float .f64 0, .float .f64 0, .float .f64 0, .float .f64 4607182418800017408, .float .f64 4607182418800017408, .int .i64 cs] 26)) := bl_alloc (bl_refl w) _ _
  clear hA
  by_cases a1 : 1 ≤ cs
  · by_cases a2 : cs ≤ 9007199254740992
    · have e : csB cs = true := by simp [csB, a1, a2]
      rw [e]
      go_enter Try.func50, Try.ntmps50
      repeat (first | (go_at_call 82; (with_reducible refine (one_bound _).mono ?_); rintro e w' ⟨rfl, rfl⟩) | go_values | go_skip | go_guarded | go_step | go_upon | go_back | dsimp only)
      go_ret
      exact ⟨rfl, B0⟩
    · have e : csB cs = false := by simp [csB, a2]
      have a3 : 9007199254740992 < cs := by omega
      rw [e]
      go_enter Try.func50, Try.ntmps50
      repeat (first | (go_at_call 82; (with_reducible refine (one_bound _).mono ?_); rintro e w' ⟨rfl, rfl⟩) | go_values | go_skip | go_guarded | go_step | go_upon | go_back | dsimp only)
      go_ret
      exact ⟨rfl, B0⟩
  · have e : csB cs = false := by simp [csB, a1]
    have a3 : cs < 1 := by omega
    rw [e]
    go_enter Try.func50, Try.ntmps50
    repeat (first | (go_at_call 82; (with_reducible refine (one_bound _).mono ?_); rintro e w' ⟨rfl, rfl⟩) | go_values | go_skip | go_guarded | go_step | go_upon | go_back | dsimp only)
    go_ret
    exact ⟨rfl, B0⟩
theorem len0_w (w : World) : Calls Try.prog 113 #[.agg #[.float .f64 0, .float .f64 0]] w fun e w' => e = .returned (.float .f64 0) ∧ Bel w w' :=
  (vLength_any 0 0 w).mono fun e w' ⟨r, hr, he, hb⟩ => ⟨by rw [he, length_no hr], hb⟩
theorem win01_w (w : World) : Calls Try.prog 114 #[.float .f64 0, .float .f64 4607182418800017408] w fun e w' => e = .returned (.bool true) ∧ w' = w :=
  (within_6 0 4607182418800017408 w).mono fun e w' ⟨he, hb⟩ => ⟨by rw [he, show withinK .f64 0 4607182418800017408 = true by decide +kernel], hb⟩
set_option maxRecDepth 100000 in
set_option maxHeartbeats 4000000 in
theorem isCalm_w (q : SL) (cs : Int) (w : World) : Calls Try.prog 71 #[.agg #[.int .u8 q.k, .float .f64 0, .float .f64 0, .complex .f64 0 0, .float .f64 0, .float .f64 0, .float .f64 0, .float .f64 0, .float .f64 0, .float .f64 0, .float .f64 0, .float .f64 0, .slice none 0 0, .bool q.a, .int .i64 q.c, .bool false], .agg #[.float .f64 0, .float .f64 0, .float .f64 0, .int .i64 0, .float .f64 0, .float .f64 0, .float .f64 0, .float .f64 4607182418800017408, .float .f64 4607182418800017408, .int .i64 cs]] w fun e w' => e = .returned (.bool true) ∧ Bel w w' := by
  have c2 := cmp_le .f64
  have e9 : leK .f64 0 4607182418800017408 = true := by decide +kernel
  have hA : ((w.alloc (.cells #[.int .u8 q.k, .float .f64 0, .float .f64 0, .complex .f64 0 0, .float .f64 0, .float .f64 0, .float .f64 0, .float .f64 0, .float .f64 0, .float .f64 0, .float .f64 0, .float .f64 0, .slice none 0 0, .bool q.a, .int .i64 q.c, .bool false] 39)).alloc (.cells #[.float .f64 0, .float .f64 0, .float .f64 0, .int .i64 0, .float .f64 0, .float .f64 0, .float .f64 0, .float .f64 4607182418800017408, .float .f64 4607182418800017408, .int .i64 cs] 26)).rangeAt (w.heap.size) 0 [.int .u8 q.k, .float .f64 0, .float .f64 0, .complex .f64 0 0, .float .f64 0, .float .f64 0, .float .f64 0, .float .f64 0, .float .f64 0, .float .f64 0, .float .f64 0, .float .f64 0, .slice none 0 0, .bool q.a, .int .i64 q.c, .bool false] := World.rangeAt_alloc (rng_new w [.int .u8 q.k, .float .f64 0, .float .f64 0, .complex .f64 0 0, .float .f64 0, .float .f64 0, .float .f64 0, .float .f64 0, .float .f64 0, .float .f64 0, .float .f64 0, .float .f64 0, .slice none 0 0, .bool q.a, .int .i64 q.c, .bool false] 39) _
  have hC : ((w.alloc (.cells #[.int .u8 q.k, .float .f64 0, .float .f64 0, .complex .f64 0 0, .float .f64 0, .float .f64 0, .float .f64 0, .float .f64 0, .float .f64 0, .float .f64 0, .float .f64 0, .float .f64 0, .slice none 0 0, .bool q.a, .int .i64 q.c, .bool false] 39)).alloc (.cells #[.float .f64 0, .float .f64 0, .float .f64 0, .int .i64 0, .float .f64 0, .float .f64 0, .float .f64 0, .float .f64 4607182418800017408, .float .f64 4607182418800017408, .int .i64 cs] 26)).rangeAt (w.heap.size + 1) 0 [.float .f64 0, .float .f64 0, .float .f64 0, .int .i64 0, .float .f64 0, .float .f64 0, .float .f64 0, .float .f64 4607182418800017408, .float .f64 4607182418800017408, .int .i64 cs] := by have h := rng_new (w.alloc (.cells #[.int .u8 q.k, .float .f64 0, .float .f64 0, .complex .f64 0 0, .float .f64 0, .float .f64 0, .float .f64 0, .float .f64 0, .float .f64 0, .float .f64 0, .float .f64 0, .float .f64 0, .slice none 0 0, .bool q.a, .int .i64 q.c, .bool false] 39)) [.float .f64 0, .float .f64 0, .float .f64 0, .int .i64 0, .float .f64 0, .float .f64 0, .float .f64 0, .float .f64 4607182418800017408, .float .f64 4607182418800017408, .int .i64 cs] 26; rwa [World.size_alloc] at h
  have hA4 : ((w.alloc (.cells #[.int .u8 q.k, .float .f64 0, .float .f64 0, .complex .f64 0 0, .float .f64 0, .float .f64 0, .float .f64 0, .float .f64 0, .float .f64 0, .float .f64 0, .float .f64 0, .float .f64 0, .slice none 0 0, .bool q.a, .int .i64 q.c, .bool false] 39)).alloc (.cells #[.float .f64 0, .float .f64 0, .float .f64 0, .int .i64 0, .float .f64 0, .float .f64 0, .float .f64 0, .float .f64 4607182418800017408, .float .f64 4607182418800017408, .int .i64 cs] 26)).cell? ⟨w.heap.size, 4, none⟩ = some (.float .f64 0) := by have h := hA 4 _ rfl; rwa [Nat.zero_add] at h
  have hA5 : ((w.alloc (.cells #[.int .u8 q.k, .float .f64 0, .float .f64 0, .complex .f64 0 0, .float .f64 0, .float .f64 0, .float .f64 0, .float .f64 0, .float .f64 0, .float .f64 0, .float .f64 0, .float .f64 0, .slice none 0 0, .bool q.a, .int .i64 q.c, .bool false] 39)).alloc (.cells #[.float .f64 0, .float .f64 0, .float .f64 0, .int .i64 0, .float .f64 0, .float .f64 0, .float .f64 0, .float .f64 4607182418800017408, .float .f64 4607182418800017408, .int .i64 cs] 26)).cell? ⟨w.heap.size, 5, none⟩ = some (.float .f64 0) := by have h := hA 5 _ rfl; rwa [Nat.zero_add] at h
  have hA6 : ((w.alloc (.cells #[.int .u8 q.k, .float .f64 0, .float .f64 0, .complex .f64 0 0, .float .f64 0, .float .f64 0, .float .f64 0, .float .f64 0, .float .f64 0, .float .f64 0, .float .f64 0, .float .f64 0, .slice none 0 0, .bool q.a, .int .i64 q.c, .bool false] 39)).alloc (.cells #[.float .f64 0, .float .f64 0, .float .f64 0, .int .i64 0, .float .f64 0, .float .f64 0, .float .f64 0, .float .f64 4607182418800017408, .float .f64 4607182418800017408, .int .i64 cs] 26)).cell? ⟨w.heap.size, 6, none⟩ = some (.float .f64 0) := by have h := hA 6 _ rfl; rwa [Nat.zero_add] at h
  have hC7 : ((w.alloc (.cells #[.int .u8 q.k, .float .f64 0, .float .f64 0, .complex .f64 0 0, .float .f64 0, .float .f64 0, .float .f64 0, .float .f64 0, .float .f64 0, .float .f64 0, .float .f64 0, .float .f64 0, .slice none 0 0, .bool q.a, .int .i64 q.c, .bool false] 39)).alloc (.cells #[.float .f64 0, .float .f64 0, .float .f64 0, .int .i64 0, .float .f64 0, .float .f64 0, .float .f64 0, .float .f64 4607182418800017408, .float .f64 4607182418800017408, .int .i64 cs] 26)).cell? ⟨w.heap.size + 1, 7, none⟩ = some (.float .f64 4607182418800017408) := by have h := hC 7 _ rfl; rwa [Nat.zero_add] at h
  have hC8 : ((w.alloc (.cells #[.int .u8 q.k, .float .f64 0, .float .f64 0, .complex .f64 0 0, .float .f64 0, .float .f64 0, .float .f64 0, .float .f64 0, .float .f64 0, .float .f64 0, .float .f64 0, .float .f64 0, .slice none 0 0, .bool q.a, .int .i64 q.c, .bool false] 39)).alloc (.cells #[.float .f64 0, .float .f64 0, .float .f64 0, .int .i64 0, .float .f64 0, .float .f64 0, .float .f64 0, .float .f64 4607182418800017408, .float .f64 4607182418800017408, .int .i64 cs] 26)).cell? ⟨w.heap.size + 1, 8, none⟩ = some (.float .f64 4607182418800017408) := by have h := hC 8 _ rfl; rwa [Nat.zero_add] at h
  have B0 : Bel w ((w.alloc (.cells #[.int .u8 q.k, .float .f64 0, .float .f64 0, .complex .f64 0 0, .float .f64 0, .float .f64 0, .float .f64 0, .float .f64 0, .float .f64 0, .float .f64 0, .float .f64 0, .float .f64 0, .slice none 0 0, .bool q.a, .int .i64 q.c, .bool false] 39)).alloc (.cells #[.float .f64 0, .float .f64 0, .float .f64 0, .int .i64 0, .float .f64 0, .float .f64 0, .float .f64 0, .float .f64 4607182418800017408, .float .f64 4607182418800017408, .int .i64 cs] 26)) := bl_alloc (bl_alloc (bl_refl w) _ _) _ _
  haveI := belBy_some ((w.alloc (.cells #[.int .u8 q.k, .float .f64 0, .float .f64 0, .complex .f64 0 0, .float .f64 0, .float .f64 0, .float .f64 0, .float .f64 0, .float .f64 0, .float .f64 0, .float .f64 0, .float .f64 0, .slice none 0 0, .bool q.a, .int .i64 q.c, .bool false] 39)).alloc (.cells #[.float .f64 0, .float .f64 0, .float .f64 0, .int .i64 0, .float .f64 0, .float .f64 0, .float .f64 0, .float .f64 4607182418800017408, .float .f64 4607182418800017408, .int .i64 cs] 26))
  have u4 := belBy_cell hA4
  have u5 := belBy_cell hA5
  have u6 := belBy_cell hA6
  have v7 := belBy_cell hC7
  have v8 := belBy_cell hC8
  clear hA hC
  go_enter Try.func71, Try.ntmps71
  repeat (first | go_values | go_skip | go_guarded | go_step | go_upon | go_back | dsimp only)
  refine wp_region_quiet_bel (by kernel_rfl) (by kernel_rfl) ?_
  repeat (go_big_quiet_step (first | (go_at_call 113; (with_reducible exact calls_bel (len0_w _))) | (go_at_call 114; (with_reducible exact calls_belz (win01_w _)))))
  refine wpQuiet_nil ?_
  rintro _ ⟨nq, rfl⟩
  repeat (first | go_values | go_skip | go_guarded | go_step | go_upon | go_back | dsimp only)
  go_ret
  exact ⟨rfl, bl_trans B0 nq.h⟩
/-- one calm step more -/
def ctF (c : Int) : Int := (if c ≤ 9007199254740991 then c else 9007199254740991) + 1
set_option maxRecDepth 100000 in
set_option maxHeartbeats 4000000 in
theorem counted_w (q : SL) (cs : Int) (w : World) (hc0 : 0 ≤ q.c) : Calls Try.prog 85 #[.agg #[.int .u8 q.k, .float .f64 0, .float .f64 0, .complex .f64 0 0, .float .f64 0, .float .f64 0, .float .f64 0, .float .f64 0, .float .f64 0, .float .f64 0, .float .f64 0, .float .f64 0, .slice none 0 0, .bool q.a, .int .i64 q.c, .bool false], .agg #[.float .f64 0, .float .f64 0, .float .f64 0, .int .i64 0, .float .f64 0, .float .f64 0, .float .f64 0, .float .f64 4607182418800017408, .float .f64 4607182418800017408, .int .i64 cs]] w fun e w' => e = .returned (.int .i64 (ctF q.c)) ∧ Bel w w' := by
  have hA : ((w.alloc (.cells #[.int .u8 q.k, .float .f64 0, .float .f64 0, .complex .f64 0 0, .float .f64 0, .float .f64 0, .float .f64 0, .float .f64 0, .float .f64 0, .float .f64 0, .float .f64 0, .float .f64 0, .slice none 0 0, .bool q.a, .int .i64 q.c, .bool false] 39)).alloc (.cells #[.float .f64 0, .float .f64 0, .float .f64 0, .int .i64 0, .float .f64 0, .float .f64 0, .float .f64 0, .float .f64 4607182418800017408, .float .f64 4607182418800017408, .int .i64 cs] 26)).rangeAt (w.heap.size) 0 [.int .u8 q.k, .float .f64 0, .float .f64 0, .complex .f64 0 0, .float .f64 0, .float .f64 0, .float .f64 0, .float .f64 0, .float .f64 0, .float .f64 0, .float .f64 0, .float .f64 0, .slice none 0 0, .bool q.a, .int .i64 q.c, .bool false] := World.rangeAt_alloc (rng_new w [.int .u8 q.k, .float .f64 0, .float .f64 0, .complex .f64 0 0, .float .f64 0, .float .f64 0, .float .f64 0, .float .f64 0, .float .f64 0, .float .f64 0, .float .f64 0, .float .f64 0, .slice none 0 0, .bool q.a, .int .i64 q.c, .bool false] 39) _
  have hC : ((w.alloc (.cells #[.int .u8 q.k, .float .f64 0, .float .f64 0, .complex .f64 0 0, .float .f64 0, .float .f64 0, .float .f64 0, .float .f64 0, .float .f64 0, .float .f64 0, .float .f64 0, .float .f64 0, .slice none 0 0, .bool q.a, .int .i64 q.c, .bool false] 39)).alloc (.cells #[.float .f64 0, .float .f64 0, .float .f64 0, .int .i64 0, .float .f64 0, .float .f64 0, .float .f64 0, .float .f64 4607182418800017408, .float .f64 4607182418800017408, .int .i64 cs] 26)).rangeAt (w.heap.size + 1) 0 [.float .f64 0, .float .f64 0, .float .f64 0, .int .i64 0, .float .f64 0, .float .f64 0, .float .f64 0, .float .f64 4607182418800017408, .float .f64 4607182418800017408, .int .i64 cs] := by have h := rng_new (w.alloc (.cells #[.int .u8 q.k, .float .f64 0, .float .f64 0, .complex .f64 0 0, .float .f64 0, .float .f64 0, .float .f64 0, .float .f64 0, .float .f64 0, .float .f64 0, .float .f64 0, .float .f64 0, .slice none 0 0, .bool q.a, .int .i64 q.c, .bool false] 39)) [.float .f64 0, .float .f64 0, .float .f64 0, .int .i64 0, .float .f64 0, .float .f64 0, .float .f64 0, .float .f64 4607182418800017408, .float .f64 4607182418800017408, .int .i64 cs] 26; rwa [World.size_alloc] at h
  have B0 : Bel w ((w.alloc (.cells #[.int .u8 q.k, .float .f64 0, .float .f64 0, .complex .f64 0 0, .float .f64 0, .float .f64 0, .float .f64 0, .float .f64 0, .float .f64 0, .float .f64 0, .float .f64 0, .float .f64 0, .slice none 0 0, .bool q.a, .int .i64 q.c, .bool false] 39)).alloc (.cells #[.float .f64 0, .float .f64 0, .float .f64 0, .int .i64 0, .float .f64 0, .float .f64 0, .float .f64 0, .float .f64 4607182418800017408, .float .f64 4607182418800017408, .int .i64 cs] 26)) := bl_alloc (bl_alloc (bl_refl w) _ _) _ _
  unfold ctF
  by_cases h : q.c ≤ 9007199254740991
  · rw [if_pos h]
    have hw : IntKind.i64.wrap (q.c + 1) = q.c + 1 := by rw [IntKind.wrap_i64]; omega
    go_enter Try.func85, Try.ntmps85
    repeat (first | ((with_reducible show Oper.wp _ { dst := _, op := Op.load 39 _, type := _, pos := _, after := _, guard := _ } _ _ _ _); refine wp_load_mid (P := Try.prog) 39 _ rfl _ _ rfl [.int .u8 q.k, .float .f64 0, .float .f64 0, .complex .f64 0 0, .float .f64 0, .float .f64 0, .float .f64 0, .float .f64 0, .float .f64 0, .float .f64 0, .float .f64 0, .float .f64 0, .slice none 0 0, .bool q.a, .int .i64 q.c, .bool false] _ hA Try.underlying39 rfl (by kernel_rfl) ?_; simp only [go_sem]) | ((with_reducible show Oper.wp _ { dst := _, op := Op.load 26 _, type := _, pos := _, after := _, guard := _ } _ _ _ _); refine wp_load_mid (P := Try.prog) 26 _ rfl _ _ rfl [.float .f64 0, .float .f64 0, .float .f64 0, .int .i64 0, .float .f64 0, .float .f64 0, .float .f64 0, .float .f64 4607182418800017408, .float .f64 4607182418800017408, .int .i64 cs] _ hC Try.underlying26 rfl (by kernel_rfl) ?_; simp only [go_sem]) | (go_at_call 71; (with_reducible refine (isCalm_w q cs _).mono ?_); rintro e w' ⟨rfl, hb⟩; have k14 := rng_bel hA hb 14 _ rfl; rw [Nat.zero_add] at k14) | go_values | go_skip | go_guarded | go_step | go_upon | go_back | dsimp only)
    go_ret
    exact ⟨rfl, bl_trans B0 hb⟩
  · rw [if_neg h]
    have h2 : 9007199254740991 < q.c := by omega
    go_enter Try.func85, Try.ntmps85
    repeat (first | ((with_reducible show Oper.wp _ { dst := _, op := Op.load 39 _, type := _, pos := _, after := _, guard := _ } _ _ _ _); refine wp_load_mid (P := Try.prog) 39 _ rfl _ _ rfl [.int .u8 q.k, .float .f64 0, .float .f64 0, .complex .f64 0 0, .float .f64 0, .float .f64 0, .float .f64 0, .float .f64 0, .float .f64 0, .float .f64 0, .float .f64 0, .float .f64 0, .slice none 0 0, .bool q.a, .int .i64 q.c, .bool false] _ hA Try.underlying39 rfl (by kernel_rfl) ?_; simp only [go_sem]) | ((with_reducible show Oper.wp _ { dst := _, op := Op.load 26 _, type := _, pos := _, after := _, guard := _ } _ _ _ _); refine wp_load_mid (P := Try.prog) 26 _ rfl _ _ rfl [.float .f64 0, .float .f64 0, .float .f64 0, .int .i64 0, .float .f64 0, .float .f64 0, .float .f64 0, .float .f64 4607182418800017408, .float .f64 4607182418800017408, .int .i64 cs] _ hC Try.underlying26 rfl (by kernel_rfl) ?_; simp only [go_sem]) | (go_at_call 71; (with_reducible refine (isCalm_w q cs _).mono ?_); rintro e w' ⟨rfl, hb⟩; have k14 := rng_bel hA hb 14 _ rfl; rw [Nat.zero_add] at k14) | go_values | go_skip | go_guarded | go_step | go_upon | go_back | dsimp only)
    go_ret
    exact ⟨rfl, bl_trans B0 hb⟩
set_option maxRecDepth 100000 in
set_option maxHeartbeats 4000000 in
theorem event_w (k n : Int) (w : World) : Calls Try.prog 81 #[.int .u8 k, .int .i64 n] w fun e w' => e = .returned (.agg #[.int .u8 k, .int .i64 n, .int .i64 0, .int .i64 0, .int .i64 0]) ∧ Bel w w' := by
  go_enter Try.func81, Try.ntmps81
  go_wp2
  refine bodyPost_ret (v := .agg #[.int .u8 k, .int .i64 n, .int .i64 0, .int .i64 0, .int .i64 0]) (by simp [results, Try.results81, go_sem] <;> exact ⟨rfl, rfl⟩) rfl ⟨rfl, ?_⟩
  repeat (first | exact bl_refl _ | assumption | apply bl_drewN | apply bl_drew | apply bl_alloc | refine bl_set ?_ (by simp <;> omega) | refine bl_trans ?_ (by assumption))

end Go.Proofs.Ytcdnhkjedmmhpaa
