/-
  What each function of package poly answers, and what the reference of its chapter answers: one contract a function, for every float: the answer stands in the relation of its formula to what was given; of the memory that was there nothing has turned.
-/
import Derived.Test.YtcdnhkjedmmhpaaVec
import Derived.Test.YtcdnhkjedmmhpaaSlz
import Derived.Below
import Derived.WalkKit
import Derived.WalkLawsBesides
import Derived.WalkSpells
import Derived.ProofKit
import Derived.OpenShut
import Derived.Deep.RegionHeld3
namespace Go.Proofs.Ytcdnhkjedmmhpaa
open Go.ChangeShapes Go.WideShapes Go.ChangeAt Go.RowKit
set_option linter.unusedVariables false
set_option linter.unusedSimpArgs false


theorem quiet_load20 {P : Program} {C : World → Prop} {o : Oper} {a : Act} {K : Act → Prop} (ty : TypeId) (x : Operand) (ho : o.op = .load ty x) (u v : Value) (hx : a.eval x = u) (h : ∀ w, C w → (Instr.loadAt ty u).run P w = .ok v w) (hk : K (a.put o.dst v)) : o.quiet P a C K :=
  ⟨v, fun w hw => by unfold Oper.quietAt execOp; simp only [ho, hx, Sem.run_bind, h w hw, Result.andThen_ok, Sem.run_pure]; exact ⟨rfl, rfl⟩, hk⟩
theorem set_of2 {W : World} {b : Nat} {cs : Int} {v : Value} (h : W.rangeAt b 0 [.float .f64 0, .float .f64 0, .float .f64 0, .int .i64 0, .float .f64 0, .float .f64 0, .float .f64 0, .float .f64 4607182418800017408, .float .f64 4607182418800017408, .int .i64 cs, v, .slice none 0 0, .slice none 0 0, .int .i64 0]) : W.rangeAt b 0 [.float .f64 0, .float .f64 0, .float .f64 0, .int .i64 0, .float .f64 0, .float .f64 0, .float .f64 0, .float .f64 4607182418800017408, .float .f64 4607182418800017408, .int .i64 cs] := rng_part (k := 0) h rfl
set_option maxRecDepth 100000 in
set_option maxHeartbeats 4000000 in
theorem same_w (cs : Int) (g cap g2 cap2 sn : Nat) (S S2 : Nat → SL) (w : World) (hgc : sn ≤ cap) (hcm : cap ≤ maxLen) (hgc2 : sn ≤ cap2) (hcm2 : cap2 ≤ maxLen) (hs : Sls w g 0 sn S) (hs2 : Sls w g2 0 sn S2) (hsn : sn ≤ 1024) (hu : ∀ i, i < sn → (S2 i).u = (S i).u ∧ (S2 i).l = (S i).l ∧ (S2 i).k = (S i).k) : Calls Try.prog 26 #[.agg #[.float .f64 0, .float .f64 0, .float .f64 0, .int .i64 0, .float .f64 0, .float .f64 0, .float .f64 0, .float .f64 4607182418800017408, .float .f64 4607182418800017408, .int .i64 cs, .slice (some ⟨g, 0, none⟩) sn cap, .slice none 0 0, .slice none 0 0, .int .i64 0], .agg #[.float .f64 0, .float .f64 0, .float .f64 0, .int .i64 0, .float .f64 0, .float .f64 0, .float .f64 0, .float .f64 4607182418800017408, .float .f64 4607182418800017408, .int .i64 cs, .slice (some ⟨g2, 0, none⟩) sn cap2, .slice none 0 0, .slice none 0 0, .int .i64 0]] w fun e w' => ∃ b : Bool, ((∀ i, i < sn → (S i).a = (S2 i).a ∧ (S i).c = (S2 i).c) → b = true) ∧ e = .returned (.bool b) ∧ Bel w w' := by
  have hA : ((w.alloc (.cells #[.float .f64 0, .float .f64 0, .float .f64 0, .int .i64 0, .float .f64 0, .float .f64 0, .float .f64 0, .float .f64 4607182418800017408, .float .f64 4607182418800017408, .int .i64 cs, .slice (some ⟨g, 0, none⟩) sn cap, .slice none 0 0, .slice none 0 0, .int .i64 0] 31)).alloc (.cells #[.float .f64 0, .float .f64 0, .float .f64 0, .int .i64 0, .float .f64 0, .float .f64 0, .float .f64 0, .float .f64 4607182418800017408, .float .f64 4607182418800017408, .int .i64 cs, .slice (some ⟨g2, 0, none⟩) sn cap2, .slice none 0 0, .slice none 0 0, .int .i64 0] 31)).rangeAt (w.heap.size) 0 [.float .f64 0, .float .f64 0, .float .f64 0, .int .i64 0, .float .f64 0, .float .f64 0, .float .f64 0, .float .f64 4607182418800017408, .float .f64 4607182418800017408, .int .i64 cs, .slice (some ⟨g, 0, none⟩) sn cap, .slice none 0 0, .slice none 0 0, .int .i64 0] := World.rangeAt_alloc (rng_new w [.float .f64 0, .float .f64 0, .float .f64 0, .int .i64 0, .float .f64 0, .float .f64 0, .float .f64 0, .float .f64 4607182418800017408, .float .f64 4607182418800017408, .int .i64 cs, .slice (some ⟨g, 0, none⟩) sn cap, .slice none 0 0, .slice none 0 0, .int .i64 0] 31) _
  have hC : ((w.alloc (.cells #[.float .f64 0, .float .f64 0, .float .f64 0, .int .i64 0, .float .f64 0, .float .f64 0, .float .f64 0, .float .f64 4607182418800017408, .float .f64 4607182418800017408, .int .i64 cs, .slice (some ⟨g, 0, none⟩) sn cap, .slice none 0 0, .slice none 0 0, .int .i64 0] 31)).alloc (.cells #[.float .f64 0, .float .f64 0, .float .f64 0, .int .i64 0, .float .f64 0, .float .f64 0, .float .f64 0, .float .f64 4607182418800017408, .float .f64 4607182418800017408, .int .i64 cs, .slice (some ⟨g2, 0, none⟩) sn cap2, .slice none 0 0, .slice none 0 0, .int .i64 0] 31)).rangeAt (w.heap.size + 1) 0 [.float .f64 0, .float .f64 0, .float .f64 0, .int .i64 0, .float .f64 0, .float .f64 0, .float .f64 0, .float .f64 4607182418800017408, .float .f64 4607182418800017408, .int .i64 cs, .slice (some ⟨g2, 0, none⟩) sn cap2, .slice none 0 0, .slice none 0 0, .int .i64 0] := by have h := rng_new (w.alloc (.cells #[.float .f64 0, .float .f64 0, .float .f64 0, .int .i64 0, .float .f64 0, .float .f64 0, .float .f64 0, .float .f64 4607182418800017408, .float .f64 4607182418800017408, .int .i64 cs, .slice (some ⟨g, 0, none⟩) sn cap, .slice none 0 0, .slice none 0 0, .int .i64 0] 31)) [.float .f64 0, .float .f64 0, .float .f64 0, .int .i64 0, .float .f64 0, .float .f64 0, .float .f64 0, .float .f64 4607182418800017408, .float .f64 4607182418800017408, .int .i64 cs, .slice (some ⟨g2, 0, none⟩) sn cap2, .slice none 0 0, .slice none 0 0, .int .i64 0] 31; rwa [World.size_alloc] at h
  have B0 : Bel w ((w.alloc (.cells #[.float .f64 0, .float .f64 0, .float .f64 0, .int .i64 0, .float .f64 0, .float .f64 0, .float .f64 0, .float .f64 4607182418800017408, .float .f64 4607182418800017408, .int .i64 cs, .slice (some ⟨g, 0, none⟩) sn cap, .slice none 0 0, .slice none 0 0, .int .i64 0] 31)).alloc (.cells #[.float .f64 0, .float .f64 0, .float .f64 0, .int .i64 0, .float .f64 0, .float .f64 0, .float .f64 0, .float .f64 4607182418800017408, .float .f64 4607182418800017408, .int .i64 cs, .slice (some ⟨g2, 0, none⟩) sn cap2, .slice none 0 0, .slice none 0 0, .int .i64 0] 31)) := bl_alloc (bl_alloc (bl_refl w) _ _) _ _
  have hA10 : ((w.alloc (.cells #[.float .f64 0, .float .f64 0, .float .f64 0, .int .i64 0, .float .f64 0, .float .f64 0, .float .f64 0, .float .f64 4607182418800017408, .float .f64 4607182418800017408, .int .i64 cs, .slice (some ⟨g, 0, none⟩) sn cap, .slice none 0 0, .slice none 0 0, .int .i64 0] 31)).alloc (.cells #[.float .f64 0, .float .f64 0, .float .f64 0, .int .i64 0, .float .f64 0, .float .f64 0, .float .f64 0, .float .f64 4607182418800017408, .float .f64 4607182418800017408, .int .i64 cs, .slice (some ⟨g2, 0, none⟩) sn cap2, .slice none 0 0, .slice none 0 0, .int .i64 0] 31)).cell? ⟨w.heap.size, 10, none⟩ = some (.slice (some ⟨g, 0, none⟩) sn cap) := by have h := hA 10 _ rfl; rwa [Nat.zero_add] at h
  have hA11 : ((w.alloc (.cells #[.float .f64 0, .float .f64 0, .float .f64 0, .int .i64 0, .float .f64 0, .float .f64 0, .float .f64 0, .float .f64 4607182418800017408, .float .f64 4607182418800017408, .int .i64 cs, .slice (some ⟨g, 0, none⟩) sn cap, .slice none 0 0, .slice none 0 0, .int .i64 0] 31)).alloc (.cells #[.float .f64 0, .float .f64 0, .float .f64 0, .int .i64 0, .float .f64 0, .float .f64 0, .float .f64 0, .float .f64 4607182418800017408, .float .f64 4607182418800017408, .int .i64 cs, .slice (some ⟨g2, 0, none⟩) sn cap2, .slice none 0 0, .slice none 0 0, .int .i64 0] 31)).cell? ⟨w.heap.size, 11, none⟩ = some (.slice none 0 0) := by have h := hA 11 _ rfl; rwa [Nat.zero_add] at h
  have hA12 : ((w.alloc (.cells #[.float .f64 0, .float .f64 0, .float .f64 0, .int .i64 0, .float .f64 0, .float .f64 0, .float .f64 0, .float .f64 4607182418800017408, .float .f64 4607182418800017408, .int .i64 cs, .slice (some ⟨g, 0, none⟩) sn cap, .slice none 0 0, .slice none 0 0, .int .i64 0] 31)).alloc (.cells #[.float .f64 0, .float .f64 0, .float .f64 0, .int .i64 0, .float .f64 0, .float .f64 0, .float .f64 0, .float .f64 4607182418800017408, .float .f64 4607182418800017408, .int .i64 cs, .slice (some ⟨g2, 0, none⟩) sn cap2, .slice none 0 0, .slice none 0 0, .int .i64 0] 31)).cell? ⟨w.heap.size, 12, none⟩ = some (.slice none 0 0) := by have h := hA 12 _ rfl; rwa [Nat.zero_add] at h
  have hA13 : ((w.alloc (.cells #[.float .f64 0, .float .f64 0, .float .f64 0, .int .i64 0, .float .f64 0, .float .f64 0, .float .f64 0, .float .f64 4607182418800017408, .float .f64 4607182418800017408, .int .i64 cs, .slice (some ⟨g, 0, none⟩) sn cap, .slice none 0 0, .slice none 0 0, .int .i64 0] 31)).alloc (.cells #[.float .f64 0, .float .f64 0, .float .f64 0, .int .i64 0, .float .f64 0, .float .f64 0, .float .f64 0, .float .f64 4607182418800017408, .float .f64 4607182418800017408, .int .i64 cs, .slice (some ⟨g2, 0, none⟩) sn cap2, .slice none 0 0, .slice none 0 0, .int .i64 0] 31)).cell? ⟨w.heap.size, 13, none⟩ = some (.int .i64 0) := by have h := hA 13 _ rfl; rwa [Nat.zero_add] at h
  have hC10 : ((w.alloc (.cells #[.float .f64 0, .float .f64 0, .float .f64 0, .int .i64 0, .float .f64 0, .float .f64 0, .float .f64 0, .float .f64 4607182418800017408, .float .f64 4607182418800017408, .int .i64 cs, .slice (some ⟨g, 0, none⟩) sn cap, .slice none 0 0, .slice none 0 0, .int .i64 0] 31)).alloc (.cells #[.float .f64 0, .float .f64 0, .float .f64 0, .int .i64 0, .float .f64 0, .float .f64 0, .float .f64 0, .float .f64 4607182418800017408, .float .f64 4607182418800017408, .int .i64 cs, .slice (some ⟨g2, 0, none⟩) sn cap2, .slice none 0 0, .slice none 0 0, .int .i64 0] 31)).cell? ⟨w.heap.size + 1, 10, none⟩ = some (.slice (some ⟨g2, 0, none⟩) sn cap2) := by have h := hC 10 _ rfl; rwa [Nat.zero_add] at h
  have hC11 : ((w.alloc (.cells #[.float .f64 0, .float .f64 0, .float .f64 0, .int .i64 0, .float .f64 0, .float .f64 0, .float .f64 0, .float .f64 4607182418800017408, .float .f64 4607182418800017408, .int .i64 cs, .slice (some ⟨g, 0, none⟩) sn cap, .slice none 0 0, .slice none 0 0, .int .i64 0] 31)).alloc (.cells #[.float .f64 0, .float .f64 0, .float .f64 0, .int .i64 0, .float .f64 0, .float .f64 0, .float .f64 0, .float .f64 4607182418800017408, .float .f64 4607182418800017408, .int .i64 cs, .slice (some ⟨g2, 0, none⟩) sn cap2, .slice none 0 0, .slice none 0 0, .int .i64 0] 31)).cell? ⟨w.heap.size + 1, 11, none⟩ = some (.slice none 0 0) := by have h := hC 11 _ rfl; rwa [Nat.zero_add] at h
  have hC12 : ((w.alloc (.cells #[.float .f64 0, .float .f64 0, .float .f64 0, .int .i64 0, .float .f64 0, .float .f64 0, .float .f64 0, .float .f64 4607182418800017408, .float .f64 4607182418800017408, .int .i64 cs, .slice (some ⟨g, 0, none⟩) sn cap, .slice none 0 0, .slice none 0 0, .int .i64 0] 31)).alloc (.cells #[.float .f64 0, .float .f64 0, .float .f64 0, .int .i64 0, .float .f64 0, .float .f64 0, .float .f64 0, .float .f64 4607182418800017408, .float .f64 4607182418800017408, .int .i64 cs, .slice (some ⟨g2, 0, none⟩) sn cap2, .slice none 0 0, .slice none 0 0, .int .i64 0] 31)).cell? ⟨w.heap.size + 1, 12, none⟩ = some (.slice none 0 0) := by have h := hC 12 _ rfl; rwa [Nat.zero_add] at h
  have hC13 : ((w.alloc (.cells #[.float .f64 0, .float .f64 0, .float .f64 0, .int .i64 0, .float .f64 0, .float .f64 0, .float .f64 0, .float .f64 4607182418800017408, .float .f64 4607182418800017408, .int .i64 cs, .slice (some ⟨g, 0, none⟩) sn cap, .slice none 0 0, .slice none 0 0, .int .i64 0] 31)).alloc (.cells #[.float .f64 0, .float .f64 0, .float .f64 0, .int .i64 0, .float .f64 0, .float .f64 0, .float .f64 0, .float .f64 4607182418800017408, .float .f64 4607182418800017408, .int .i64 cs, .slice (some ⟨g2, 0, none⟩) sn cap2, .slice none 0 0, .slice none 0 0, .int .i64 0] 31)).cell? ⟨w.heap.size + 1, 13, none⟩ = some (.int .i64 0) := by have h := hC 13 _ rfl; rwa [Nat.zero_add] at h
  replace hA := set_of2 hA
  replace hC := set_of2 hC
  replace hs := hs.bel B0
  replace hs2 := hs2.bel B0
  unfold maxLen at hcm hcm2
  go_enter Try.func26, Try.ntmps26
  repeat (first | ((with_reducible show Oper.wp _ { dst := _, op := Op.load 26 (Operand.tmp 12), type := _, pos := _, after := _, guard := _ } _ _ _ _); refine wp_load_mid (P := Try.prog) 26 _ rfl _ _ rfl [.float .f64 0, .float .f64 0, .float .f64 0, .int .i64 0, .float .f64 0, .float .f64 0, .float .f64 0, .float .f64 4607182418800017408, .float .f64 4607182418800017408, .int .i64 cs] _ hA Try.underlying26 rfl (by kernel_rfl) ?_; simp only [go_sem]) | ((with_reducible show Oper.wp _ { dst := _, op := Op.load 26 (Operand.tmp 14), type := _, pos := _, after := _, guard := _ } _ _ _ _); refine wp_load_mid (P := Try.prog) 26 _ rfl _ _ rfl [.float .f64 0, .float .f64 0, .float .f64 0, .int .i64 0, .float .f64 0, .float .f64 0, .float .f64 0, .float .f64 4607182418800017408, .float .f64 4607182418800017408, .int .i64 cs] _ hC Try.underlying26 rfl (by kernel_rfl) ?_; simp only [go_sem]) | (go_at_call 54; (with_reducible refine (sset_w cs _).mono ?_); rintro e W3 ⟨rfl, hb⟩; clear hA hC; replace hA10 := keep hb hA10; replace hA11 := keep hb hA11; replace hA12 := keep hb hA12; replace hA13 := keep hb hA13; replace hC10 := keep hb hC10; replace hC11 := keep hb hC11; replace hC12 := keep hb hC12; replace hC13 := keep hb hC13; replace hs := hs.bel hb; replace hs2 := hs2.bel hb; replace B0 := bl_trans B0 hb; clear hb) | go_values | go_skip | go_guarded | go_step | go_upon | go_back | dsimp only)
  go_loopw [6] (fun i wr => ∃ k : Nat, k ≤ sn ∧ i = .int .i64 k ∧ Bel W3 wr) (fun i _ => sn - (intOf i).toNat)
  case atStart => exact ⟨0, by omega, rfl, bl_refl _⟩
  case round =>
    obtain ⟨k, hk, rfl, hB⟩ := hrel
    have hB9 := bl_trans B0 hB
    have kA10 := keep hB hA10
    have kC10 := keep hB hC10
    by_cases hlt : k < sn
    · have hkI : (k : Int) < (sn : Int) := by omega
      have hkC : (k : Int) < (cap : Int) := by omega
      have hkS : (k : Int) < (cap2 : Int) := by omega
      obtain ⟨h1, h2, h3⟩ := hu k hlt
      have hl1 := sls_body (hs.bel hB) hlt
      have hl2 := sls_body (hs2.bel hB) hlt
      rw [h3, Nat.zero_add] at hl2
      rw [Nat.zero_add] at hl1
      have u1 := sl_cell (hs.bel hB) hlt 0 rfl
      have u2 := sl_cell (hs2.bel hB) hlt 0 rfl
      have l1 := sl_cell (hs.bel hB) hlt 1 rfl
      have l2 := sl_cell (hs2.bel hB) hlt 1 rfl
      rw [h1] at u2
      rw [h2] at l2
      simp only [Nat.zero_add, Nat.add_zero] at u1 u2 l1 l2
      haveI := belBy_some wr
      have v1 := belBy_cell kA10
      have v2 := belBy_cell kC10
      have hcl := fun w => s16_w (S k).k (S k).c (S2 k).c (S k).a (S2 k).a w
      obtain ⟨b5, hb5⟩ : ∃ b5, b5 = (((S k).a == (S2 k).a) && decide ((S k).c = (S2 k).c)) := ⟨_, rfl⟩
      rw [← hb5] at hcl
      replace hb5 := hb5.symm
      cases b5
      · repeat (first | go_values | go_skip | go_guarded | go_step | go_upon | go_back | dsimp only)
        have v3 : ∀ p : BelBy wr, (Instr.loadAt 39 (.pointer (some ⟨g, k * 18 + 2, none⟩))).run Try.prog p.world = .ok (.agg #[.int .u8 (S k).k, .float .f64 0, .float .f64 0, .complex .f64 0 0, .float .f64 0, .float .f64 0, .float .f64 0, .float .f64 0, .float .f64 0, .float .f64 0, .float .f64 0, .float .f64 0, .slice none 0 0, .bool (S k).a, .int .i64 (S k).c, .bool false]) p.world := fun p => run_loadAt_mid (P := Try.prog) p.world g (k * 18 + 2) 39 [.int .u8 (S k).k, .float .f64 0, .float .f64 0, .complex .f64 0 0, .float .f64 0, .float .f64 0, .float .f64 0, .float .f64 0, .float .f64 0, .float .f64 0, .float .f64 0, .float .f64 0, .slice none 0 0, .bool (S k).a, .int .i64 (S k).c, .bool false] _ (rng_bel hl1 p.h) Try.underlying39 rfl (by kernel_rfl)
        have v4 : ∀ p : BelBy wr, (Instr.loadAt 39 (.pointer (some ⟨g2, k * 18 + 2, none⟩))).run Try.prog p.world = .ok (.agg #[.int .u8 (S k).k, .float .f64 0, .float .f64 0, .complex .f64 0 0, .float .f64 0, .float .f64 0, .float .f64 0, .float .f64 0, .float .f64 0, .float .f64 0, .float .f64 0, .float .f64 0, .slice none 0 0, .bool (S2 k).a, .int .i64 (S2 k).c, .bool false]) p.world := fun p => run_loadAt_mid (P := Try.prog) p.world g2 (k * 18 + 2) 39 [.int .u8 (S k).k, .float .f64 0, .float .f64 0, .complex .f64 0 0, .float .f64 0, .float .f64 0, .float .f64 0, .float .f64 0, .float .f64 0, .float .f64 0, .float .f64 0, .float .f64 0, .slice none 0 0, .bool (S2 k).a, .int .i64 (S2 k).c, .bool false] _ (rng_bel hl2 p.h) Try.underlying39 rfl (by kernel_rfl)
        refine wp_region_quiet_bel (by kernel_rfl) (by kernel_rfl) ?_
        repeat (first | (go_big_quiet_want; refine quiet_load20 39 _ rfl (.pointer (some ⟨g, k * 18 + 2, none⟩)) (.agg #[.int .u8 (S k).k, .float .f64 0, .float .f64 0, .complex .f64 0 0, .float .f64 0, .float .f64 0, .float .f64 0, .float .f64 0, .float .f64 0, .float .f64 0, .float .f64 0, .float .f64 0, .slice none 0 0, .bool (S k).a, .int .i64 (S k).c, .bool false]) rfl (by rintro _ ⟨p, rfl⟩; exact v3 p) ?_; simp only [Act.put, List.setIfInBounds_toArray, List.set_cons_zero, List.set_cons_succ]; go_big_quiet_on) | (go_big_quiet_want; refine quiet_load20 39 _ rfl (.pointer (some ⟨g2, k * 18 + 2, none⟩)) (.agg #[.int .u8 (S k).k, .float .f64 0, .float .f64 0, .complex .f64 0 0, .float .f64 0, .float .f64 0, .float .f64 0, .float .f64 0, .float .f64 0, .float .f64 0, .float .f64 0, .float .f64 0, .slice none 0 0, .bool (S2 k).a, .int .i64 (S2 k).c, .bool false]) rfl (by rintro _ ⟨p, rfl⟩; exact v4 p) ?_; simp only [Act.put, List.setIfInBounds_toArray, List.set_cons_zero, List.set_cons_succ]; go_big_quiet_on) | go_big_quiet_step ((go_at_call 55; (with_reducible exact calls_bel (hcl _)))))
        refine wpQuiet_nil ?_
        rintro _ ⟨nq, rfl⟩
        repeat (first | go_values | go_skip | go_guarded | go_step | go_upon | go_back | dsimp only)
        have B9 := bl_trans hB9 nq.h
        generalize nq.world = wq at *
        haveI := belBy_some wq
        refine wp_region_quiet_bel (by kernel_rfl) (by kernel_rfl) ?_
        repeat (go_big_quiet_step (fail))
        refine wpQuiet_nil ?_
        rintro _ ⟨nq, rfl⟩
        repeat (first | go_values | go_skip | go_guarded | go_step | go_upon | go_back | dsimp only)
        go_ret
        refine ⟨false, fun hall => ?_, rfl, bl_trans B9 nq.h⟩
        obtain ⟨e1, e2⟩ := hall k hlt
        rw [e1, e2] at hb5
        simp at hb5
      · repeat (first | go_values | go_skip | go_guarded | go_step | go_upon | go_back | dsimp only)
        have v3 : ∀ p : BelBy wr, (Instr.loadAt 39 (.pointer (some ⟨g, k * 18 + 2, none⟩))).run Try.prog p.world = .ok (.agg #[.int .u8 (S k).k, .float .f64 0, .float .f64 0, .complex .f64 0 0, .float .f64 0, .float .f64 0, .float .f64 0, .float .f64 0, .float .f64 0, .float .f64 0, .float .f64 0, .float .f64 0, .slice none 0 0, .bool (S k).a, .int .i64 (S k).c, .bool false]) p.world := fun p => run_loadAt_mid (P := Try.prog) p.world g (k * 18 + 2) 39 [.int .u8 (S k).k, .float .f64 0, .float .f64 0, .complex .f64 0 0, .float .f64 0, .float .f64 0, .float .f64 0, .float .f64 0, .float .f64 0, .float .f64 0, .float .f64 0, .float .f64 0, .slice none 0 0, .bool (S k).a, .int .i64 (S k).c, .bool false] _ (rng_bel hl1 p.h) Try.underlying39 rfl (by kernel_rfl)
        have v4 : ∀ p : BelBy wr, (Instr.loadAt 39 (.pointer (some ⟨g2, k * 18 + 2, none⟩))).run Try.prog p.world = .ok (.agg #[.int .u8 (S k).k, .float .f64 0, .float .f64 0, .complex .f64 0 0, .float .f64 0, .float .f64 0, .float .f64 0, .float .f64 0, .float .f64 0, .float .f64 0, .float .f64 0, .float .f64 0, .slice none 0 0, .bool (S2 k).a, .int .i64 (S2 k).c, .bool false]) p.world := fun p => run_loadAt_mid (P := Try.prog) p.world g2 (k * 18 + 2) 39 [.int .u8 (S k).k, .float .f64 0, .float .f64 0, .complex .f64 0 0, .float .f64 0, .float .f64 0, .float .f64 0, .float .f64 0, .float .f64 0, .float .f64 0, .float .f64 0, .float .f64 0, .slice none 0 0, .bool (S2 k).a, .int .i64 (S2 k).c, .bool false] _ (rng_bel hl2 p.h) Try.underlying39 rfl (by kernel_rfl)
        refine wp_region_quiet_bel (by kernel_rfl) (by kernel_rfl) ?_
        repeat (first | (go_big_quiet_want; refine quiet_load20 39 _ rfl (.pointer (some ⟨g, k * 18 + 2, none⟩)) (.agg #[.int .u8 (S k).k, .float .f64 0, .float .f64 0, .complex .f64 0 0, .float .f64 0, .float .f64 0, .float .f64 0, .float .f64 0, .float .f64 0, .float .f64 0, .float .f64 0, .float .f64 0, .slice none 0 0, .bool (S k).a, .int .i64 (S k).c, .bool false]) rfl (by rintro _ ⟨p, rfl⟩; exact v3 p) ?_; simp only [Act.put, List.setIfInBounds_toArray, List.set_cons_zero, List.set_cons_succ]; go_big_quiet_on) | (go_big_quiet_want; refine quiet_load20 39 _ rfl (.pointer (some ⟨g2, k * 18 + 2, none⟩)) (.agg #[.int .u8 (S k).k, .float .f64 0, .float .f64 0, .complex .f64 0 0, .float .f64 0, .float .f64 0, .float .f64 0, .float .f64 0, .float .f64 0, .float .f64 0, .float .f64 0, .float .f64 0, .slice none 0 0, .bool (S2 k).a, .int .i64 (S2 k).c, .bool false]) rfl (by rintro _ ⟨p, rfl⟩; exact v4 p) ?_; simp only [Act.put, List.setIfInBounds_toArray, List.set_cons_zero, List.set_cons_succ]; go_big_quiet_on) | go_big_quiet_step ((go_at_call 55; (with_reducible exact calls_bel (hcl _)))))
        refine wpQuiet_nil ?_
        rintro _ ⟨nq, rfl⟩
        repeat (first | go_values | go_skip | go_guarded | go_step | go_upon | go_back | dsimp only)
        have B9 := bl_trans hB nq.h
        have x1 := belBy_cell (keep nq.h kA10)
        have x2 := belBy_cell (keep nq.h kC10)
        have x3 := belBy_cell (keep nq.h u1)
        have x4 := belBy_cell (keep nq.h u2)
        have x5 := belBy_cell (keep nq.h l1)
        have x6 := belBy_cell (keep nq.h l2)
        clear v1 v2 v3 v4
        generalize nq.world = wq at *
        haveI := belBy_some wq
        refine wp_region_quiet_bel (by kernel_rfl) (by kernel_rfl) ?_
        repeat (go_big_quiet_step (fail))
        refine wpQuiet_nil ?_
        rintro _ ⟨nq, rfl⟩
        repeat (first | go_values | go_skip | go_guarded | go_step | go_upon | go_back | dsimp only)
        exact ⟨⟨k + 1, by omega, by go_num, bl_trans B9 nq.h⟩, by simp [intOf]; omega⟩
    · have hnl : ¬ (k : Int) < (sn : Int) := by omega
      have kA11 := keep hB hA11
      have kA12 := keep hB hA12
      repeat (first | go_values | go_skip | go_guarded | go_step | go_upon | go_back | dsimp only)
      refine wp_loop_rounds 1 ?_
      rw [rounds_succ]
      repeat (first | go_values | go_skip | go_guarded | go_step | go_upon | go_back | dsimp only)
      refine wp_loop_rounds 1 ?_
      rw [rounds_succ]
      repeat (first | go_values | go_skip | go_guarded | go_step | go_upon | go_back | dsimp only)
      go_ret
      exact ⟨true, fun _ => rfl, rfl, hB9⟩

end Go.Proofs.Ytcdnhkjedmmhpaa
