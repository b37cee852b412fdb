/-
  What each function of package poly answers, and what the reference of its chapter answers: one contract a function, for every float: the answer stands in the relation of its formula to what was given; of the memory that was there nothing has turned.
-/
import Derived.Test.YtcdnhkjedmmhpaaVec
import Derived.Test.YtcdnhkjedmmhpaaSlf
import Derived.Below
import Derived.WalkKit
import Derived.WalkLawsBesides
import Derived.WalkSpells
import Derived.ProofKit
import Derived.OpenShut
import Derived.Deep.RegionHeld3
namespace Go.Proofs.Ytcdnhkjedmmhpaa
open Go.ChangeShapes Go.WideShapes Go.ChangeAt Go.RowKit
set_option linter.unusedVariables false
set_option linter.unusedSimpArgs false


theorem eq00 : eqK .f64 0 0 = true := by decide +kernel
set_option maxRecDepth 100000 in
set_option maxHeartbeats 4000000 in
theorem isPulled_w (q : SL) (w : World) : Calls Try.prog 80 #[.agg #[.int .u8 q.k, .float .f64 0, .float .f64 0, .complex .f64 0 0, .float .f64 0, .float .f64 0, .float .f64 0, .float .f64 0, .float .f64 0, .float .f64 0, .float .f64 0, .float .f64 0, .slice none 0 0, .bool q.a, .int .i64 q.c, .bool false]] w fun e w' => e = .returned (.bool false) ∧ Bel w w' := by
  have hA : (w.alloc (.cells #[.int .u8 q.k, .float .f64 0, .float .f64 0, .complex .f64 0 0, .float .f64 0, .float .f64 0, .float .f64 0, .float .f64 0, .float .f64 0, .float .f64 0, .float .f64 0, .float .f64 0, .slice none 0 0, .bool q.a, .int .i64 q.c, .bool false] 39)).rangeAt w.heap.size 0 [.int .u8 q.k, .float .f64 0, .float .f64 0, .complex .f64 0 0, .float .f64 0, .float .f64 0, .float .f64 0, .float .f64 0, .float .f64 0, .float .f64 0, .float .f64 0, .float .f64 0, .slice none 0 0, .bool q.a, .int .i64 q.c, .bool false] := rng_new w [.int .u8 q.k, .float .f64 0, .float .f64 0, .complex .f64 0 0, .float .f64 0, .float .f64 0, .float .f64 0, .float .f64 0, .float .f64 0, .float .f64 0, .float .f64 0, .float .f64 0, .slice none 0 0, .bool q.a, .int .i64 q.c, .bool false] 39
  have c1 := cmp_eq .f64
  have c2 := cmp_ne .f64
  have e9 := eq00
  have q4 := fun (x y : Nat) (w : World) => run_equalIn_fl Try.prog w 9998 22 .f64 x y Try.underlying22
  have hA6 : (w.alloc (.cells #[.int .u8 q.k, .float .f64 0, .float .f64 0, .complex .f64 0 0, .float .f64 0, .float .f64 0, .float .f64 0, .float .f64 0, .float .f64 0, .float .f64 0, .float .f64 0, .float .f64 0, .slice none 0 0, .bool q.a, .int .i64 q.c, .bool false] 39)).cell? ⟨w.heap.size, 6, none⟩ = some (.float .f64 0) := by have h := hA 6 _ rfl; rwa [Nat.zero_add] at h
  have hA7 : (w.alloc (.cells #[.int .u8 q.k, .float .f64 0, .float .f64 0, .complex .f64 0 0, .float .f64 0, .float .f64 0, .float .f64 0, .float .f64 0, .float .f64 0, .float .f64 0, .float .f64 0, .float .f64 0, .slice none 0 0, .bool q.a, .int .i64 q.c, .bool false] 39)).cell? ⟨w.heap.size, 7, none⟩ = some (.float .f64 0) := by have h := hA 7 _ rfl; rwa [Nat.zero_add] at h
  have hA8 : (w.alloc (.cells #[.int .u8 q.k, .float .f64 0, .float .f64 0, .complex .f64 0 0, .float .f64 0, .float .f64 0, .float .f64 0, .float .f64 0, .float .f64 0, .float .f64 0, .float .f64 0, .float .f64 0, .slice none 0 0, .bool q.a, .int .i64 q.c, .bool false] 39)).cell? ⟨w.heap.size, 8, none⟩ = some (.float .f64 0) := by have h := hA 8 _ rfl; rwa [Nat.zero_add] at h
  have B0 : Bel w (w.alloc (.cells #[.int .u8 q.k, .float .f64 0, .float .f64 0, .complex .f64 0 0, .float .f64 0, .float .f64 0, .float .f64 0, .float .f64 0, .float .f64 0, .float .f64 0, .float .f64 0, .float .f64 0, .slice none 0 0, .bool q.a, .int .i64 q.c, .bool false] 39)) := bl_alloc (bl_refl w) _ _
  clear hA
  go_enter Try.func80, Try.ntmps80
  repeat (first | go_values | go_skip | go_guarded | go_step | go_upon | go_back | dsimp only)
  go_ret
  exact ⟨rfl, B0⟩
theorem bls_rng {w : World} {b : Nat} (h : Bls w b (fun _ => false)) : w.rangeAt b 0 (List.replicate 1024 (.bool false)) := fun j v hv => by
  rw [Nat.zero_add]
  obtain ⟨h1, h2⟩ := List.getElem?_eq_some_iff.1 hv
  rw [List.length_replicate] at h1
  rw [(h j h1).1, ← h2, List.getElem_replicate]
theorem info_bools : (Try.prog.info? 106).map (·.size) = some 1024 := by kernel_rfl
theorem rep_len : (List.replicate 1024 (Value.bool false)).length = 1024 := List.length_replicate
theorem rep_size : (List.replicate 1024 (Value.bool false)).toArray.size = 1024 := rep_len
theorem rep_all : (List.replicate 1024 (Value.bool false)).toArray.all (·.oneCell') = true := by
  rw [List.all_toArray, List.all_eq_true]
  intro x hx
  rw [(List.mem_replicate.1 hx).2]
  rfl
theorem bls_there {w : World} {b : Nat} {f : Nat → Bool} (h : Bls w b f) : w.there b 0 1024 := fun j hj => by
  rw [Nat.zero_add]
  exact ⟨by rw [(h j hj).1]; rfl, (h j hj).2⟩
set_option maxRecDepth 100000 in
set_option maxHeartbeats 4000000 in
theorem driven_w (cs : Int) (sb so sn sc_ : Nat) (ss : Option Addr) (S : Nat → SL) (w : World) : Calls Try.prog 47 #[.agg #[.float .f64 0, .float .f64 0, .float .f64 0, .int .i64 0, .float .f64 0, .float .f64 0, .float .f64 0, .float .f64 4607182418800017408, .float .f64 4607182418800017408, .int .i64 cs, .slice ss sn sc_, .slice none 0 0, .slice none 0 0, .int .i64 0]] w fun e w' => e = .returned (.agg (List.replicate 1024 (.bool false)).toArray) ∧ Bel w w' := by
  have hA : (w.alloc (.cells #[.float .f64 0, .float .f64 0, .float .f64 0, .int .i64 0, .float .f64 0, .float .f64 0, .float .f64 0, .float .f64 4607182418800017408, .float .f64 4607182418800017408, .int .i64 cs, .slice ss sn sc_, .slice none 0 0, .slice none 0 0, .int .i64 0] 31)).rangeAt w.heap.size 0 [.float .f64 0, .float .f64 0, .float .f64 0, .int .i64 0, .float .f64 0, .float .f64 0, .float .f64 0, .float .f64 4607182418800017408, .float .f64 4607182418800017408, .int .i64 cs, .slice ss sn sc_, .slice none 0 0, .slice none 0 0, .int .i64 0] := rng_new w [.float .f64 0, .float .f64 0, .float .f64 0, .int .i64 0, .float .f64 0, .float .f64 0, .float .f64 0, .float .f64 4607182418800017408, .float .f64 4607182418800017408, .int .i64 cs, .slice ss sn sc_, .slice none 0 0, .slice none 0 0, .int .i64 0] 31
  have k12 : (((w.alloc (.cells #[.float .f64 0, .float .f64 0, .float .f64 0, .int .i64 0, .float .f64 0, .float .f64 0, .float .f64 0, .float .f64 4607182418800017408, .float .f64 4607182418800017408, .int .i64 cs, .slice ss sn sc_, .slice none 0 0, .slice none 0 0, .int .i64 0] 31)).alloc (.cells Try.zeroCells106 106)).alloc (.cells Try.zeroCells106 106)).cell? ⟨w.heap.size, 12, none⟩ = some (.slice none 0 0) := by have h := hA 12 _ rfl; rw [Nat.zero_add] at h; exact up_alloc (up_alloc h)
  have hz1 : (w.alloc (.cells #[.float .f64 0, .float .f64 0, .float .f64 0, .int .i64 0, .float .f64 0, .float .f64 0, .float .f64 0, .float .f64 4607182418800017408, .float .f64 4607182418800017408, .int .i64 cs, .slice ss sn sc_, .slice none 0 0, .slice none 0 0, .int .i64 0] 31)).heap.size = w.heap.size + 1 := by simp only [World.size_alloc]
  have hT2 : Bls (((w.alloc (.cells #[.float .f64 0, .float .f64 0, .float .f64 0, .int .i64 0, .float .f64 0, .float .f64 0, .float .f64 0, .float .f64 4607182418800017408, .float .f64 4607182418800017408, .int .i64 cs, .slice ss sn sc_, .slice none 0 0, .slice none 0 0, .int .i64 0] 31)).alloc (.cells Try.zeroCells106 106)).alloc (.cells Try.zeroCells106 106)) (w.heap.size + 1) (fun _ => false) := by have h := bls_new (w.alloc (.cells #[.float .f64 0, .float .f64 0, .float .f64 0, .int .i64 0, .float .f64 0, .float .f64 0, .float .f64 0, .float .f64 4607182418800017408, .float .f64 4607182418800017408, .int .i64 cs, .slice ss sn sc_, .slice none 0 0, .slice none 0 0, .int .i64 0] 31)) 106; rw [← zero_bools, hz1] at h; exact h.bel (bl_alloc (bl_refl _) _ _)
  have hT3 : Bls (((w.alloc (.cells #[.float .f64 0, .float .f64 0, .float .f64 0, .int .i64 0, .float .f64 0, .float .f64 0, .float .f64 0, .float .f64 4607182418800017408, .float .f64 4607182418800017408, .int .i64 cs, .slice ss sn sc_, .slice none 0 0, .slice none 0 0, .int .i64 0] 31)).alloc (.cells Try.zeroCells106 106)).alloc (.cells Try.zeroCells106 106)) (w.heap.size + 1 + 1) (fun _ => false) := by have h := bls_new ((w.alloc (.cells #[.float .f64 0, .float .f64 0, .float .f64 0, .int .i64 0, .float .f64 0, .float .f64 0, .float .f64 0, .float .f64 4607182418800017408, .float .f64 4607182418800017408, .int .i64 cs, .slice ss sn sc_, .slice none 0 0, .slice none 0 0, .int .i64 0] 31)).alloc (.cells Try.zeroCells106 106)) 106; rw [← zero_bools, World.size_alloc, hz1] at h; exact h
  have B0 : Bel w (((w.alloc (.cells #[.float .f64 0, .float .f64 0, .float .f64 0, .int .i64 0, .float .f64 0, .float .f64 0, .float .f64 0, .float .f64 4607182418800017408, .float .f64 4607182418800017408, .int .i64 cs, .slice ss sn sc_, .slice none 0 0, .slice none 0 0, .int .i64 0] 31)).alloc (.cells Try.zeroCells106 106)).alloc (.cells Try.zeroCells106 106)) := bl_alloc (bl_alloc (bl_alloc (bl_refl w) _ _) _ _) _ _
  clear hA
  have hT9 : (((w.alloc (.cells #[.float .f64 0, .float .f64 0, .float .f64 0, .int .i64 0, .float .f64 0, .float .f64 0, .float .f64 0, .float .f64 4607182418800017408, .float .f64 4607182418800017408, .int .i64 cs, .slice ss sn sc_, .slice none 0 0, .slice none 0 0, .int .i64 0] 31)).alloc (.cells Try.zeroCells106 106)).alloc (.cells Try.zeroCells106 106)).there (w.heap.size + 1) 0 (List.replicate 1024 (Value.bool false)).toArray.size := by rw [rep_size]; exact bls_there hT2
  go_enter Try.func47, Try.ntmps47
  repeat (first | go_values | go_skip | go_guarded | go_step | go_upon | go_back | dsimp only)
  refine wp_loop_rounds 1 ?_
  rw [rounds_succ]
  repeat (first | ((with_reducible show Oper.wp _ { dst := _, op := Op.load 106 _, type := _, pos := _, after := _, guard := _ } _ _ _ _); refine wp_load_mid (P := Try.prog) 106 _ rfl _ _ rfl (List.replicate 1024 (Value.bool false)) _ (bls_rng hT3) Try.underlying106 rfl (by rw [rep_len]; exact info_bools) ?_; (try simp only [go_sem])) | ((with_reducible show Oper.wp _ { dst := _, op := Op.store 106 _ _, type := _, pos := _, after := _, guard := _ } _ _ _ _); refine wp_store_mid (P := Try.prog) 106 _ _ rfl (w.heap.size + 1) 0 (List.replicate 1024 (Value.bool false)).toArray rfl rfl hT9 (by rw [rep_size]; exact info_bools) rep_all ?_; (try simp only [go_sem])) | go_values | go_skip | go_guarded | go_step | go_upon | go_back | dsimp only)
  refine bodyPost_ret (results_c (c := 2) (ty := 106) rfl rfl (run_loadVar_mid _ (w.heap.size + 1) 0 106 (List.replicate 1024 (Value.bool false)) _ (World.rangeAt_setCells_same _ _ _ _ hT9) Try.underlying106 rfl (by rw [rep_len]; exact info_bools))) rfl ⟨rfl, bel_setsJ _ _ B0 (by omega)⟩

end Go.Proofs.Ytcdnhkjedmmhpaa
