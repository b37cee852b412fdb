/-
  What each function of package poly answers, and what the reference of its chapter answers: one contract a function, for every float: the answer stands in the relation of its formula to what was given; of the memory that was there nothing has turned.
-/
import Derived.Test.YtcdnhkjedmmhpaaVec
import Derived.Test.YtcdnhkjedmmhpaaSlg
import Derived.Below
import Derived.WalkKit
import Derived.WalkLawsBesides
import Derived.WalkSpells
import Derived.ProofKit
import Derived.OpenShut
import Derived.Deep.RegionHeld3
namespace Go.Proofs.Ytcdnhkjedmmhpaa
open Go.ChangeShapes Go.WideShapes Go.ChangeAt Go.RowKit
set_option linter.unusedVariables false
set_option linter.unusedSimpArgs false


theorem sls_body {w : World} {b o n k : Nat} {S : Nat → SL} (h : Sls w b o n S) (hk : k < n) : w.rangeAt b (o + k * 18 + 2) [.int .u8 (S k).k, .float .f64 0, .float .f64 0, .complex .f64 0 0, .float .f64 0, .float .f64 0, .float .f64 0, .float .f64 0, .float .f64 0, .float .f64 0, .float .f64 0, .float .f64 0, .slice none 0 0, .bool (S k).a, .int .i64 (S k).c, .bool false] := fun j v hj => by
  have h1 := h k hk (j + 2) v hj
  rw [show o + k * 18 + (j + 2) = o + k * 18 + 2 + j by omega] at h1
  exact h1
set_option maxRecDepth 100000 in
set_option maxHeartbeats 4000000 in
theorem wakes_w (cs : Int) (sb so sn sc_ : Nat) (ss : Option Addr) (S : Nat → SL) (ib io im ic : Nat) (is_ : Option Addr) (d : Nat) (w : World) (hss : sn = 0 ∨ ss = some ⟨sb, so, none⟩) (hsc : sn ≤ sc_) (hsm : sc_ ≤ maxLen) (hs : Sls w sb so sn S) (hi1 : im = 0 ∨ is_ = some ⟨ib, io, none⟩) (hic : im ≤ ic) (him : ic ≤ maxLen) (hin : Nts w ib io im) (hmn : im ≤ sn) (hsn : sn ≤ 1024) (hd : Bls w d (fun _ => false)) : Calls Try.prog 48 #[.agg #[.float .f64 0, .float .f64 0, .float .f64 0, .int .i64 0, .float .f64 0, .float .f64 0, .float .f64 0, .float .f64 4607182418800017408, .float .f64 4607182418800017408, .int .i64 cs, .slice ss sn sc_, .slice none 0 0, .slice none 0 0, .int .i64 0], .slice is_ im ic, .pointer (some ⟨d, 0, none⟩)] w fun e w' => e = .returned (.bool (awB S im)) ∧ Bel w w' := by
  have hA : (w.alloc (.cells #[.float .f64 0, .float .f64 0, .float .f64 0, .int .i64 0, .float .f64 0, .float .f64 0, .float .f64 0, .float .f64 4607182418800017408, .float .f64 4607182418800017408, .int .i64 cs, .slice ss sn sc_, .slice none 0 0, .slice none 0 0, .int .i64 0] 31)).rangeAt w.heap.size 0 [.float .f64 0, .float .f64 0, .float .f64 0, .int .i64 0, .float .f64 0, .float .f64 0, .float .f64 0, .float .f64 4607182418800017408, .float .f64 4607182418800017408, .int .i64 cs, .slice ss sn sc_, .slice none 0 0, .slice none 0 0, .int .i64 0] := rng_new w [.float .f64 0, .float .f64 0, .float .f64 0, .int .i64 0, .float .f64 0, .float .f64 0, .float .f64 0, .float .f64 4607182418800017408, .float .f64 4607182418800017408, .int .i64 cs, .slice ss sn sc_, .slice none 0 0, .slice none 0 0, .int .i64 0] 31
  have k10 : (w.alloc (.cells #[.float .f64 0, .float .f64 0, .float .f64 0, .int .i64 0, .float .f64 0, .float .f64 0, .float .f64 0, .float .f64 4607182418800017408, .float .f64 4607182418800017408, .int .i64 cs, .slice ss sn sc_, .slice none 0 0, .slice none 0 0, .int .i64 0] 31)).cell? ⟨w.heap.size, 10, none⟩ = some (.slice ss sn sc_) := by have h := hA 10 _ rfl; rwa [Nat.zero_add] at h
  have B0 : Bel w (w.alloc (.cells #[.float .f64 0, .float .f64 0, .float .f64 0, .int .i64 0, .float .f64 0, .float .f64 0, .float .f64 0, .float .f64 4607182418800017408, .float .f64 4607182418800017408, .int .i64 cs, .slice ss sn sc_, .slice none 0 0, .slice none 0 0, .int .i64 0] 31)) := bl_alloc (bl_refl w) _ _
  have hsm9 := hsm
  unfold maxLen at hsm him
  clear hA
  go_enter Try.func48, Try.ntmps48
  repeat (first | go_values | go_skip | go_guarded | go_step | go_upon | go_back | dsimp only)
  go_loopw [12] (fun i wr => ∃ k : Nat, k ≤ im ∧ i = .int .i64 k ∧ Bel (w.alloc (.cells #[.float .f64 0, .float .f64 0, .float .f64 0, .int .i64 0, .float .f64 0, .float .f64 0, .float .f64 0, .float .f64 4607182418800017408, .float .f64 4607182418800017408, .int .i64 cs, .slice ss sn sc_, .slice none 0 0, .slice none 0 0, .int .i64 0] 31)) wr ∧ awB S k = false) (fun i _ => im - (intOf i).toNat)
  case atStart => exact ⟨0, by omega, rfl, bl_refl _, rfl⟩
  case round =>
    obtain ⟨k, hk, rfl, hB, hq⟩ := hrel
    have hB9 := bl_trans B0 hB
    by_cases hlt : k < im
    · have e9 : is_ = some ⟨ib, io, none⟩ := by rcases hi1 with h | h; omega; exact h
      subst e9
      have e8 : ss = some ⟨sb, so, none⟩ := by rcases hss with h | h; omega; exact h
      subst e8
      have hkI : (k : Int) < (im : Int) := by omega
      have hkC : (k : Int) < (ic : Int) := by omega
      have hkN : (k : Int) < (sn : Int) := by omega
      have hkS : (k : Int) < (sc_ : Int) := by omega
      have hk4 : (k : Int) < 1024 := by omega
      have kk := (hin.bel hB9) k hlt
      have kS := keep hB k10
      have hld := sls_body (hs.bel hB9) (show k < sn by omega)
      have hX : (wr.alloc (.cells #[.int .u8 0, .float .f64 0, .float .f64 0, .complex .f64 0 0, .float .f64 0, .float .f64 0, .float .f64 0, .float .f64 0, .float .f64 0, .float .f64 0, .float .f64 0, .float .f64 0, .slice none 0 0, .bool false, .int .i64 0, .bool false] 39)).there wr.heap.size 0 16 := there_new wr [.int .u8 0, .float .f64 0, .float .f64 0, .complex .f64 0 0, .float .f64 0, .float .f64 0, .float .f64 0, .float .f64 0, .float .f64 0, .float .f64 0, .float .f64 0, .float .f64 0, .slice none 0 0, .bool false, .int .i64 0, .bool false] 39
      cases ha : (S k).a
      · rw [ha] at hld
        have hbx : ((wr.alloc (.cells #[.int .u8 0, .float .f64 0, .float .f64 0, .complex .f64 0 0, .float .f64 0, .float .f64 0, .float .f64 0, .float .f64 0, .float .f64 0, .float .f64 0, .float .f64 0, .float .f64 0, .slice none 0 0, .bool false, .int .i64 0, .bool false] 39)).setCells wr.heap.size 0 [.int .u8 (S k).k, .float .f64 0, .float .f64 0, .complex .f64 0 0, .float .f64 0, .float .f64 0, .float .f64 0, .float .f64 0, .float .f64 0, .float .f64 0, .float .f64 0, .float .f64 0, .slice none 0 0, .bool false, .int .i64 (S k).c, .bool false]).rangeAt wr.heap.size 0 [.int .u8 (S k).k, .float .f64 0, .float .f64 0, .complex .f64 0 0, .float .f64 0, .float .f64 0, .float .f64 0, .float .f64 0, .float .f64 0, .float .f64 0, .float .f64 0, .float .f64 0, .slice none 0 0, .bool false, .int .i64 (S k).c, .bool false] := World.rangeAt_setCells_same _ _ _ _ hX
        have k13 := hbx 13 _ rfl
        rw [Nat.zero_add] at k13
        have hB2 : Bel wr ((wr.alloc (.cells #[.int .u8 0, .float .f64 0, .float .f64 0, .complex .f64 0 0, .float .f64 0, .float .f64 0, .float .f64 0, .float .f64 0, .float .f64 0, .float .f64 0, .float .f64 0, .float .f64 0, .slice none 0 0, .bool false, .int .i64 0, .bool false] 39)).setCells wr.heap.size 0 [.int .u8 (S k).k, .float .f64 0, .float .f64 0, .complex .f64 0 0, .float .f64 0, .float .f64 0, .float .f64 0, .float .f64 0, .float .f64 0, .float .f64 0, .float .f64 0, .float .f64 0, .slice none 0 0, .bool false, .int .i64 (S k).c, .bool false]) := bel_setsJ _ _ (bl_alloc (bl_refl _) _ _) (Nat.le_refl _)
        have hB3 := bl_trans hB9 hB2
        obtain ⟨kD, fD⟩ := hd.bel hB3 k (by omega)
        repeat (first | ((with_reducible show Oper.wp _ { dst := _, op := Op.load 39 _, type := _, pos := _, after := _, guard := _ } _ _ _ _); refine wp_load_mid (P := Try.prog) 39 _ rfl _ _ rfl [.int .u8 (S k).k, .float .f64 0, .float .f64 0, .complex .f64 0 0, .float .f64 0, .float .f64 0, .float .f64 0, .float .f64 0, .float .f64 0, .float .f64 0, .float .f64 0, .float .f64 0, .slice none 0 0, .bool false, .int .i64 (S k).c, .bool false] _ hld Try.underlying39 rfl (by kernel_rfl) ?_; simp only [go_sem]) | ((with_reducible show Oper.wp _ { dst := _, op := Op.store 39 _ _, type := _, pos := _, after := _, guard := _ } _ _ _ _); refine wp_store_mid (P := Try.prog) 39 _ _ rfl (wr.heap.size) (0) #[.int .u8 (S k).k, .float .f64 0, .float .f64 0, .complex .f64 0 0, .float .f64 0, .float .f64 0, .float .f64 0, .float .f64 0, .float .f64 0, .float .f64 0, .float .f64 0, .float .f64 0, .slice none 0 0, .bool false, .int .i64 (S k).c, .bool false] rfl rfl hX (by kernel_rfl) (by kernel_rfl) ?_; (try simp only [go_sem])) | go_values | go_skip | go_guarded | go_step | go_upon | go_back | dsimp only)
        go_ret
        refine ⟨?_, hB3⟩
        unfold awB
        rw [anyN_at (p := fun i => !(S i).a) (by simp [ha]) hlt]
        rfl
      · rw [ha] at hld
        have hbx : ((wr.alloc (.cells #[.int .u8 0, .float .f64 0, .float .f64 0, .complex .f64 0 0, .float .f64 0, .float .f64 0, .float .f64 0, .float .f64 0, .float .f64 0, .float .f64 0, .float .f64 0, .float .f64 0, .slice none 0 0, .bool false, .int .i64 0, .bool false] 39)).setCells wr.heap.size 0 [.int .u8 (S k).k, .float .f64 0, .float .f64 0, .complex .f64 0 0, .float .f64 0, .float .f64 0, .float .f64 0, .float .f64 0, .float .f64 0, .float .f64 0, .float .f64 0, .float .f64 0, .slice none 0 0, .bool true, .int .i64 (S k).c, .bool false]).rangeAt wr.heap.size 0 [.int .u8 (S k).k, .float .f64 0, .float .f64 0, .complex .f64 0 0, .float .f64 0, .float .f64 0, .float .f64 0, .float .f64 0, .float .f64 0, .float .f64 0, .float .f64 0, .float .f64 0, .slice none 0 0, .bool true, .int .i64 (S k).c, .bool false] := World.rangeAt_setCells_same _ _ _ _ hX
        have k13 := hbx 13 _ rfl
        rw [Nat.zero_add] at k13
        have hB2 : Bel wr ((wr.alloc (.cells #[.int .u8 0, .float .f64 0, .float .f64 0, .complex .f64 0 0, .float .f64 0, .float .f64 0, .float .f64 0, .float .f64 0, .float .f64 0, .float .f64 0, .float .f64 0, .float .f64 0, .slice none 0 0, .bool false, .int .i64 0, .bool false] 39)).setCells wr.heap.size 0 [.int .u8 (S k).k, .float .f64 0, .float .f64 0, .complex .f64 0 0, .float .f64 0, .float .f64 0, .float .f64 0, .float .f64 0, .float .f64 0, .float .f64 0, .float .f64 0, .float .f64 0, .slice none 0 0, .bool true, .int .i64 (S k).c, .bool false]) := bel_setsJ _ _ (bl_alloc (bl_refl _) _ _) (Nat.le_refl _)
        have hB3 := bl_trans hB9 hB2
        obtain ⟨kD, fD⟩ := hd.bel hB3 k (by omega)
        repeat (first | ((with_reducible show Oper.wp _ { dst := _, op := Op.load 39 (Operand.tmp 20), type := _, pos := _, after := _, guard := _ } _ _ _ _); refine wp_load_mid (P := Try.prog) 39 _ rfl _ _ rfl [.int .u8 (S k).k, .float .f64 0, .float .f64 0, .complex .f64 0 0, .float .f64 0, .float .f64 0, .float .f64 0, .float .f64 0, .float .f64 0, .float .f64 0, .float .f64 0, .float .f64 0, .slice none 0 0, .bool true, .int .i64 (S k).c, .bool false] _ hld Try.underlying39 rfl (by kernel_rfl) ?_; simp only [go_sem]) | ((with_reducible show wpList _ _ _ ({ dst := _, op := Op.load 39 (Operand.tmp 9), type := _, pos := _, after := _, guard := _ } :: _) _ _); refine wpList_load_mid (P := Try.prog) rfl 39 _ rfl _ _ rfl [.int .u8 (S k).k, .float .f64 0, .float .f64 0, .complex .f64 0 0, .float .f64 0, .float .f64 0, .float .f64 0, .float .f64 0, .float .f64 0, .float .f64 0, .float .f64 0, .float .f64 0, .slice none 0 0, .bool true, .int .i64 (S k).c, .bool false] _ hbx Try.underlying39 rfl (by kernel_rfl) ?_; simp only [go_sem]) | ((with_reducible show Oper.wp _ { dst := _, op := Op.store 39 _ _, type := _, pos := _, after := _, guard := _ } _ _ _ _); refine wp_store_mid (P := Try.prog) 39 _ _ rfl (wr.heap.size) (0) #[.int .u8 (S k).k, .float .f64 0, .float .f64 0, .complex .f64 0 0, .float .f64 0, .float .f64 0, .float .f64 0, .float .f64 0, .float .f64 0, .float .f64 0, .float .f64 0, .float .f64 0, .slice none 0 0, .bool true, .int .i64 (S k).c, .bool false] rfl rfl hX (by kernel_rfl) (by kernel_rfl) ?_; (try simp only [go_sem])) | (go_at_call 80; (with_reducible refine (isPulled_w ⟨(S k).u, (S k).l, (S k).k, true, (S k).c⟩ _).mono ?_); rintro e w' ⟨rfl, hb⟩; replace kD := keep hb kD) | go_values | go_skip | go_guarded | go_step | go_upon | go_back | dsimp only)
        refine ⟨⟨k + 1, by omega, by go_num, bl_trans hB (bl_trans hB2 hb), ?_⟩, by simp [intOf]; omega⟩
        unfold awB at hq
        unfold awB anyN
        rw [hq, ha]
        rfl
    · have hnl : ¬ (k : Int) < (im : Int) := by omega
      have e9 : k = im := by omega
      rw [e9] at hq
      repeat (first | go_values | go_skip | go_guarded | go_step | go_upon | go_back | dsimp only)
      go_ret
      exact ⟨by rw [hq]; rfl, hB9⟩

end Go.Proofs.Ytcdnhkjedmmhpaa
