/-
  What each function of package poly answers, and what the reference of its chapter answers: one contract a function, for every float: the answer stands in the relation of its formula to what was given; of the memory that was there nothing has turned.
-/
import Derived.Test.YtoofbfjlgablkaaVec
import Derived.Test.YtoofbfjlgablkaaSa
import Derived.Below
import Derived.WalkKit
import Derived.WalkLawsBesides
import Derived.WalkSpells
import Derived.ProofKit
import Derived.OpenShut
import Derived.Deep.RegionHeld3
namespace Go.Proofs.Ytoofbfjlgablkaa
open Go.ChangeShapes Go.WideShapes Go.ChangeAt Go.RowKit
set_option linter.unusedVariables false
set_option linter.unusedSimpArgs false


/-- what stands behind the interface -/
def kdV (k : Int) (r : Nat) (V : Value) (xs ys : Nat → Nat) : Value := if k = 1 then .iface 84 (.agg #[.float .f64 (xs 0), .float .f64 (ys 0), .float .f64 r]) else if k = 2 then .iface 86 (.agg #[.float .f64 (xs 0), .float .f64 (ys 0), .float .f64 (xs 1), .float .f64 (ys 1), .float .f64 r]) else .iface 88 (.agg #[V])
def kdR (k : Int) (r n : Nat) (V : Value) (xs ys : Nat → Nat) : Value := .tuple #[if kdE k r n = 0 then kdV k r V xs ys else .nilIface, .int .i64 (kdE k r n)]
set_option maxHeartbeats 2000000 in
theorem kind_any (V : Value) (n : Nat) (xs ys : Nat → Nat) (k : Int) (r : Nat) (w : World) (h : AnyS w V n xs ys) : Calls Try.prog 57 #[.agg #[.int .u8 k, .float .f64 r, V]] w fun e w' => e = .returned (kdR k r n V xs ys) ∧ Bel w w' := by
  obtain ⟨a, c, rfl, hc, hm, hr, o, hA⟩ := id h
  unfold maxLen at hm
  have c1 := cmp_eq .f64
  by_cases k1 : k = 1
  · subst k1
    by_cases n1 : n = 1
    · subst n1
      obtain ⟨hp, b, off, rfl, hsl⟩ : 0 < 1 ∧ ∃ b off, a = some ⟨b, off, none⟩ ∧ Sl w b off 1 xs ys := by
        rcases hA with e | e
        · omega
        · exact e
      have hb0 := hsl.lt hp
      have hsl := hsl.bel (bl_alloc (bl_refl w) #[.int .u8 1, .float .f64 r, .slice (some ⟨b, off, none⟩) 1 c] 44)
      obtain ⟨x0, x1⟩ := hsl 0 (by decide)
      rw [show off + 0 * 2 = off by omega] at x0 x1
      go_enter Try.func57, Try.ntmps57
      go_wp2
      go_region
      go_wp2
      refine bodyPost_ret (v := .tuple #[(.iface 84 (.agg #[.float .f64 (xs 0), .float .f64 (ys 0), .float .f64 r])), .int .i64 0]) (by simp [results, Try.results57, go_sem] <;> (first | exact ⟨⟨rfl, rfl⟩, rfl⟩ | exact ⟨rfl, rfl, rfl, rfl⟩ | exact ⟨rfl, rfl, rfl⟩ | exact ⟨rfl, rfl⟩ | rfl)) rfl ⟨by unfold kdR kdE kdV; simp [], ?_⟩
      repeat (first | exact bl_refl _ | assumption | apply bl_drewN | apply bl_drew | apply bl_alloc | refine bl_set ?_ (by simp <;> omega) | refine bl_trans ?_ (by assumption))
    · have n1' : ¬ (n : Int) = 1 := by omega
      go_enter Try.func57, Try.ntmps57
      go_wp2
      refine bodyPost_ret (v := .tuple #[.nilIface, .int .i64 6]) (by simp [results, Try.results57, go_sem] <;> (first | exact ⟨⟨rfl, rfl⟩, rfl⟩ | exact ⟨rfl, rfl, rfl, rfl⟩ | exact ⟨rfl, rfl, rfl⟩ | exact ⟨rfl, rfl⟩ | rfl)) rfl ⟨by unfold kdR kdE kdV; simp [n1], ?_⟩
      repeat (first | exact bl_refl _ | assumption | apply bl_drewN | apply bl_drew | apply bl_alloc | refine bl_set ?_ (by simp <;> omega) | refine bl_trans ?_ (by assumption))
  by_cases k2 : k = 2
  · subst k2
    by_cases n1 : n = 2
    · subst n1
      obtain ⟨hp, b, off, rfl, hsl⟩ : 0 < 2 ∧ ∃ b off, a = some ⟨b, off, none⟩ ∧ Sl w b off 2 xs ys := by
        rcases hA with e | e
        · omega
        · exact e
      have hb0 := hsl.lt hp
      have hsl := hsl.bel (bl_alloc (bl_refl w) #[.int .u8 2, .float .f64 r, .slice (some ⟨b, off, none⟩) 2 c] 44)
      obtain ⟨x0, x1⟩ := hsl 0 (by decide)
      obtain ⟨x2, x3⟩ := hsl 1 (by decide)
      rw [show off + 0 * 2 = off by omega] at x0 x1
      rw [show off + 1 * 2 = off + 2 by omega] at x2 x3
      go_enter Try.func57, Try.ntmps57
      go_wp2
      go_region
      go_wp2
      refine bodyPost_ret (v := .tuple #[(.iface 86 (.agg #[.float .f64 (xs 0), .float .f64 (ys 0), .float .f64 (xs 1), .float .f64 (ys 1), .float .f64 r])), .int .i64 0]) (by simp [results, Try.results57, go_sem] <;> (first | exact ⟨⟨rfl, rfl⟩, rfl⟩ | exact ⟨rfl, rfl, rfl, rfl⟩ | exact ⟨rfl, rfl, rfl⟩ | exact ⟨rfl, rfl⟩ | rfl)) rfl ⟨by unfold kdR kdE kdV; simp [], ?_⟩
      repeat (first | exact bl_refl _ | assumption | apply bl_drewN | apply bl_drew | apply bl_alloc | refine bl_set ?_ (by simp <;> omega) | refine bl_trans ?_ (by assumption))
    · have n1' : ¬ (n : Int) = 2 := by omega
      go_enter Try.func57, Try.ntmps57
      go_wp2
      refine bodyPost_ret (v := .tuple #[.nilIface, .int .i64 6]) (by simp [results, Try.results57, go_sem] <;> (first | exact ⟨⟨rfl, rfl⟩, rfl⟩ | exact ⟨rfl, rfl, rfl, rfl⟩ | exact ⟨rfl, rfl, rfl⟩ | exact ⟨rfl, rfl⟩ | rfl)) rfl ⟨by unfold kdR kdE kdV; simp [n1], ?_⟩
      repeat (first | exact bl_refl _ | assumption | apply bl_drewN | apply bl_drew | apply bl_alloc | refine bl_set ?_ (by simp <;> omega) | refine bl_trans ?_ (by assumption))
  by_cases k3 : k = 3
  · subst k3
    by_cases n3 : 3 ≤ n
    · have n3' : (3 : Int) ≤ (n : Int) := by omega
      by_cases n8 : n ≤ 8
      · have n8' : (n : Int) ≤ 8 := by omega
        cases hz : eqK .f64 r 0
        · go_enter Try.func57, Try.ntmps57
          go_wp2
          refine bodyPost_ret (v := .tuple #[.nilIface, .int .i64 6]) (by simp [results, Try.results57, go_sem] <;> (first | exact ⟨⟨rfl, rfl⟩, rfl⟩ | exact ⟨rfl, rfl, rfl, rfl⟩ | exact ⟨rfl, rfl, rfl⟩ | exact ⟨rfl, rfl⟩ | rfl)) rfl ⟨by unfold kdR kdE kdV; simp [hz], ?_⟩
          repeat (first | exact bl_refl _ | assumption | apply bl_drewN | apply bl_drew | apply bl_alloc | refine bl_set ?_ (by simp <;> omega) | refine bl_trans ?_ (by assumption))
        · go_enter Try.func57, Try.ntmps57
          go_wp2
          refine bodyPost_ret (v := .tuple #[(.iface 88 (.agg #[.slice a n c])), .int .i64 0]) (by simp [results, Try.results57, go_sem] <;> (first | exact ⟨⟨rfl, rfl⟩, rfl⟩ | exact ⟨rfl, rfl, rfl, rfl⟩ | exact ⟨rfl, rfl, rfl⟩ | exact ⟨rfl, rfl⟩ | rfl)) rfl ⟨by unfold kdR kdE kdV; simp [n3, n8, hz], ?_⟩
          repeat (first | exact bl_refl _ | assumption | apply bl_drewN | apply bl_drew | apply bl_alloc | refine bl_set ?_ (by simp <;> omega) | refine bl_trans ?_ (by assumption))
      · have n8' : ¬ (n : Int) ≤ 8 := by omega
        go_enter Try.func57, Try.ntmps57
        go_wp2
        refine bodyPost_ret (v := .tuple #[.nilIface, .int .i64 6]) (by simp [results, Try.results57, go_sem] <;> (first | exact ⟨⟨rfl, rfl⟩, rfl⟩ | exact ⟨rfl, rfl, rfl, rfl⟩ | exact ⟨rfl, rfl, rfl⟩ | exact ⟨rfl, rfl⟩ | rfl)) rfl ⟨by unfold kdR kdE kdV; simp [n8], ?_⟩
        repeat (first | exact bl_refl _ | assumption | apply bl_drewN | apply bl_drew | apply bl_alloc | refine bl_set ?_ (by simp <;> omega) | refine bl_trans ?_ (by assumption))
    · have n3' : ¬ (3 : Int) ≤ (n : Int) := by omega
      go_enter Try.func57, Try.ntmps57
      go_wp2
      refine bodyPost_ret (v := .tuple #[.nilIface, .int .i64 6]) (by simp [results, Try.results57, go_sem] <;> (first | exact ⟨⟨rfl, rfl⟩, rfl⟩ | exact ⟨rfl, rfl, rfl, rfl⟩ | exact ⟨rfl, rfl, rfl⟩ | exact ⟨rfl, rfl⟩ | rfl)) rfl ⟨by unfold kdR kdE kdV; simp [n3], ?_⟩
      repeat (first | exact bl_refl _ | assumption | apply bl_drewN | apply bl_drew | apply bl_alloc | refine bl_set ?_ (by simp <;> omega) | refine bl_trans ?_ (by assumption))
  · go_enter Try.func57, Try.ntmps57
    go_wp2
    refine bodyPost_ret (v := .tuple #[.nilIface, .int .i64 70]) (by simp [results, Try.results57, go_sem] <;> (first | exact ⟨⟨rfl, rfl⟩, rfl⟩ | exact ⟨rfl, rfl, rfl, rfl⟩ | exact ⟨rfl, rfl, rfl⟩ | exact ⟨rfl, rfl⟩ | rfl)) rfl ⟨by unfold kdR kdE kdV; simp [k1, k2, k3], ?_⟩
    repeat (first | exact bl_refl _ | assumption | apply bl_drewN | apply bl_drew | apply bl_alloc | refine bl_set ?_ (by simp <;> omega) | refine bl_trans ?_ (by assumption))
theorem m_check1 {xs ys : Nat → Nat} {r : Nat} (w : World) : (method 217 84 (.agg #[.float .f64 (xs 0), .float .f64 (ys 0), .float .f64 r]) "tumble/shape.check").run Try.prog w = .ok (86, .agg #[.float .f64 (xs 0), .float .f64 (ys 0), .float .f64 r]) w := by kernel_rfl
theorem m_check2 {xs ys : Nat → Nat} {r : Nat} (w : World) : (method 217 86 (.agg #[.float .f64 (xs 0), .float .f64 (ys 0), .float .f64 (xs 1), .float .f64 (ys 1), .float .f64 r]) "tumble/shape.check").run Try.prog w = .ok (90, .agg #[.float .f64 (xs 0), .float .f64 (ys 0), .float .f64 (xs 1), .float .f64 (ys 1), .float .f64 r]) w := by kernel_rfl
theorem m_check3 {V : Value} (w : World) : (method 217 88 (.agg #[V]) "tumble/shape.check").run Try.prog w = .ok (94, .agg #[V]) w := by kernel_rfl
def ckR (k : Int) (r n : Nat) (V : Value) (xs ys : Nat → Nat) : Value := .tuple #[if shE k r xs ys n = 0 then kdV k r V xs ys else .nilIface, .int .i64 (shE k r xs ys n)]
theorem kd_some {k : Int} {r n : Nat} (h : kdE k r n = 0) : (k = 1 ∧ n = 1) ∨ (k = 2 ∧ n = 2) ∨ (k = 3 ∧ 3 ≤ n ∧ n ≤ 8 ∧ eqK .f64 r 0 = true) := by
  unfold kdE at h
  split at h
  · split at h
    · rename_i a b; exact .inl ⟨a, b⟩
    · cases h
  · split at h
    · split at h
      · rename_i a b; exact .inr (.inl ⟨a, b⟩)
      · cases h
    · split at h
      · split at h
        · rename_i a b; exact .inr (.inr ⟨a, b⟩)
        · cases h
      · cases h
theorem kdR_no {k : Int} {r n : Nat} {V : Value} {xs ys : Nat → Nat} {v : Int} (h : kdE k r n = v) (hv : ¬ v = 0) : kdR k r n V xs ys = .tuple #[.nilIface, .int .i64 v] := by
  unfold kdR; rw [h, if_neg hv]
theorem kdR_1 {r : Nat} {V : Value} {xs ys : Nat → Nat} : kdR 1 r 1 V xs ys = .tuple #[.iface 84 (.agg #[.float .f64 (xs 0), .float .f64 (ys 0), .float .f64 r]), .int .i64 0] := rfl
theorem kdR_2 {r : Nat} {V : Value} {xs ys : Nat → Nat} : kdR 2 r 2 V xs ys = .tuple #[.iface 86 (.agg #[.float .f64 (xs 0), .float .f64 (ys 0), .float .f64 (xs 1), .float .f64 (ys 1), .float .f64 r]), .int .i64 0] := rfl
theorem kdR_3 {r n : Nat} {V : Value} {xs ys : Nat → Nat} (h : kdE 3 r n = 0) : kdR 3 r n V xs ys = .tuple #[.iface 88 (.agg #[V]), .int .i64 0] := by unfold kdR; rw [h]; rfl
theorem sh_1 {r : Nat} {xs ys : Nat → Nat} : shE 1 r xs ys 1 = rdE xs ys 1 r := rfl
theorem sh_2 {r : Nat} {xs ys : Nat → Nat} : shE 2 r xs ys 2 = ckE xs ys r := rfl
theorem sh_3 {r n : Nat} {xs ys : Nat → Nat} (h : kdE 3 r n = 0) : shE 3 r xs ys n = chkE xs ys n := by unfold shE; rw [if_pos h]; rfl
theorem sh_no {k : Int} {r n : Nat} {xs ys : Nat → Nat} {v : Int} (h : kdE k r n = v) (hv : ¬ v = 0) : shE k r xs ys n = v := by unfold shE; rw [h, if_neg hv]
set_option maxHeartbeats 2000000 in
theorem checked_1 (V : Value) (xs ys : Nat → Nat) (r : Nat) (w : World) (h : AnyS w V 1 xs ys) : Calls Try.prog 50 #[.agg #[.int .u8 1, .float .f64 r, V]] w fun e w' => e = .returned (ckR 1 r 1 V xs ys) ∧ Bel w w' := by
  obtain ⟨a, c, rfl, _, _, _, o, _⟩ := id h
  have B0 := bl_alloc (bl_refl w) #[.int .u8 1, .float .f64 r, .slice a 1 c] 44
  have h1 := h.bel B0
  have hm := fun w => m_check1 (xs := xs) (ys := ys) (r := r) w
  obtain ⟨v, hv⟩ : ∃ v, rdE xs ys 1 r = v := ⟨_, rfl⟩
  by_cases hz : v = 0
  · subst hz
    go_enter Try.func50, Try.ntmps50
    go_wp2_with (first | (go_at_call 57; refine (kind_any _ _ xs ys 1 r _ h1).mono ?_; rintro e w' ⟨rfl, hb⟩; rw [kdR_1]; have Bk := hb) | (go_at_call 86; refine (cChk_d xs ys r _).mono ?_; rintro e w8 ⟨rfl, hb8⟩; rw [hv]))
    refine bodyPost_ret (v := .tuple #[.iface 84 (.agg #[.float .f64 (xs 0), .float .f64 (ys 0), .float .f64 r]), .int .i64 0]) (by simp [results, Try.results50, go_sem] <;> (first | exact ⟨⟨rfl, rfl⟩, rfl⟩ | exact ⟨rfl, rfl, rfl, rfl⟩ | exact ⟨rfl, rfl, rfl⟩ | exact ⟨rfl, rfl⟩ | rfl)) rfl ⟨by unfold ckR; rw [sh_1, hv]; rfl, ?_⟩
    repeat (first | exact bl_refl _ | assumption | apply bl_drewN | apply bl_drew | apply bl_alloc | refine bl_set ?_ (by simp <;> omega) | refine bl_trans ?_ (by assumption))
  · go_enter Try.func50, Try.ntmps50
    go_wp2_with (first | (go_at_call 57; refine (kind_any _ _ xs ys 1 r _ h1).mono ?_; rintro e w' ⟨rfl, hb⟩; rw [kdR_1]; have Bk := hb) | (go_at_call 86; refine (cChk_d xs ys r _).mono ?_; rintro e w8 ⟨rfl, hb8⟩; rw [hv]))
    refine bodyPost_ret (v := .tuple #[.nilIface, .int .i64 v]) (by simp [results, Try.results50, go_sem] <;> (first | exact ⟨⟨rfl, rfl⟩, rfl⟩ | exact ⟨rfl, rfl, rfl, rfl⟩ | exact ⟨rfl, rfl, rfl⟩ | exact ⟨rfl, rfl⟩ | rfl)) rfl ⟨by unfold ckR; rw [sh_1, hv, if_neg hz], ?_⟩
    repeat (first | exact bl_refl _ | assumption | apply bl_drewN | apply bl_drew | apply bl_alloc | refine bl_set ?_ (by simp <;> omega) | refine bl_trans ?_ (by assumption))
set_option maxHeartbeats 2000000 in
theorem checked_2 (V : Value) (xs ys : Nat → Nat) (r : Nat) (w : World) (h : AnyS w V 2 xs ys) : Calls Try.prog 50 #[.agg #[.int .u8 2, .float .f64 r, V]] w fun e w' => e = .returned (ckR 2 r 2 V xs ys) ∧ Bel w w' := by
  obtain ⟨a, c, rfl, _, _, _, o, _⟩ := id h
  have B0 := bl_alloc (bl_refl w) #[.int .u8 2, .float .f64 r, .slice a 2 c] 44
  have h1 := h.bel B0
  have hm := fun w => m_check2 (xs := xs) (ys := ys) (r := r) w
  obtain ⟨v, hv⟩ : ∃ v, ckE xs ys r = v := ⟨_, rfl⟩
  by_cases hz : v = 0
  · subst hz
    go_enter Try.func50, Try.ntmps50
    go_wp2_with (first | (go_at_call 57; refine (kind_any _ _ xs ys 2 r _ h1).mono ?_; rintro e w' ⟨rfl, hb⟩; rw [kdR_2]; have Bk := hb) | (go_at_call 90; refine (aChk_d xs ys r _ o).mono ?_; rintro e w8 ⟨rfl, hb8⟩; rw [hv]))
    refine bodyPost_ret (v := .tuple #[.iface 86 (.agg #[.float .f64 (xs 0), .float .f64 (ys 0), .float .f64 (xs 1), .float .f64 (ys 1), .float .f64 r]), .int .i64 0]) (by simp [results, Try.results50, go_sem] <;> (first | exact ⟨⟨rfl, rfl⟩, rfl⟩ | exact ⟨rfl, rfl, rfl, rfl⟩ | exact ⟨rfl, rfl, rfl⟩ | exact ⟨rfl, rfl⟩ | rfl)) rfl ⟨by unfold ckR; rw [sh_2, hv]; rfl, ?_⟩
    repeat (first | exact bl_refl _ | assumption | apply bl_drewN | apply bl_drew | apply bl_alloc | refine bl_set ?_ (by simp <;> omega) | refine bl_trans ?_ (by assumption))
  · go_enter Try.func50, Try.ntmps50
    go_wp2_with (first | (go_at_call 57; refine (kind_any _ _ xs ys 2 r _ h1).mono ?_; rintro e w' ⟨rfl, hb⟩; rw [kdR_2]; have Bk := hb) | (go_at_call 90; refine (aChk_d xs ys r _ o).mono ?_; rintro e w8 ⟨rfl, hb8⟩; rw [hv]))
    refine bodyPost_ret (v := .tuple #[.nilIface, .int .i64 v]) (by simp [results, Try.results50, go_sem] <;> (first | exact ⟨⟨rfl, rfl⟩, rfl⟩ | exact ⟨rfl, rfl, rfl, rfl⟩ | exact ⟨rfl, rfl, rfl⟩ | exact ⟨rfl, rfl⟩ | rfl)) rfl ⟨by unfold ckR; rw [sh_2, hv, if_neg hz], ?_⟩
    repeat (first | exact bl_refl _ | assumption | apply bl_drewN | apply bl_drew | apply bl_alloc | refine bl_set ?_ (by simp <;> omega) | refine bl_trans ?_ (by assumption))
set_option maxHeartbeats 2000000 in
theorem checked_3 (V : Value) (n : Nat) (xs ys : Nat → Nat) (r : Nat) (w : World) (h : AnyS w V n xs ys) (hk : kdE 3 r n = 0) : Calls Try.prog 50 #[.agg #[.int .u8 3, .float .f64 r, V]] w fun e w' => e = .returned (ckR 3 r n V xs ys) ∧ Bel w w' := by
  obtain ⟨a, c, rfl, _, _, _, o, _⟩ := id h
  have B0 := bl_alloc (bl_refl w) #[.int .u8 3, .float .f64 r, .slice a n c] 44
  have h1 := h.bel B0
  have hm := fun w => m_check3 (V := .slice a n c) w
  obtain ⟨v, hv⟩ : ∃ v, chkE xs ys n = v := ⟨_, rfl⟩
  by_cases hz : v = 0
  · subst hz
    go_enter Try.func50, Try.ntmps50
    go_wp2_with (first | (go_at_call 57; refine (kind_any _ _ xs ys 3 r _ h1).mono ?_; rintro e w' ⟨rfl, hb⟩; rw [kdR_3 hk]; have Bk := hb) | (go_at_call 94; refine (pChk_d _ n xs ys _ (h1.bel Bk)).mono ?_; rintro e w8 ⟨rfl, hb8⟩; rw [hv]))
    refine bodyPost_ret (v := .tuple #[.iface 88 (.agg #[.slice a n c]), .int .i64 0]) (by simp [results, Try.results50, go_sem] <;> (first | exact ⟨⟨rfl, rfl⟩, rfl⟩ | exact ⟨rfl, rfl, rfl, rfl⟩ | exact ⟨rfl, rfl, rfl⟩ | exact ⟨rfl, rfl⟩ | rfl)) rfl ⟨by unfold ckR; rw [sh_3 hk, hv]; rfl, ?_⟩
    repeat (first | exact bl_refl _ | assumption | apply bl_drewN | apply bl_drew | apply bl_alloc | refine bl_set ?_ (by simp <;> omega) | refine bl_trans ?_ (by assumption))
  · go_enter Try.func50, Try.ntmps50
    go_wp2_with (first | (go_at_call 57; refine (kind_any _ _ xs ys 3 r _ h1).mono ?_; rintro e w' ⟨rfl, hb⟩; rw [kdR_3 hk]; have Bk := hb) | (go_at_call 94; refine (pChk_d _ n xs ys _ (h1.bel Bk)).mono ?_; rintro e w8 ⟨rfl, hb8⟩; rw [hv]))
    refine bodyPost_ret (v := .tuple #[.nilIface, .int .i64 v]) (by simp [results, Try.results50, go_sem] <;> (first | exact ⟨⟨rfl, rfl⟩, rfl⟩ | exact ⟨rfl, rfl, rfl, rfl⟩ | exact ⟨rfl, rfl, rfl⟩ | exact ⟨rfl, rfl⟩ | rfl)) rfl ⟨by unfold ckR; rw [sh_3 hk, hv, if_neg hz], ?_⟩
    repeat (first | exact bl_refl _ | assumption | apply bl_drewN | apply bl_drew | apply bl_alloc | refine bl_set ?_ (by simp <;> omega) | refine bl_trans ?_ (by assumption))

theorem checked_any (V : Value) (n : Nat) (xs ys : Nat → Nat) (k : Int) (r : Nat) (w : World) (h : AnyS w V n xs ys) : Calls Try.prog 50 #[.agg #[.int .u8 k, .float .f64 r, V]] w fun e w' => e = .returned (ckR k r n V xs ys) ∧ Bel w w' := by
  by_cases hk : kdE k r n = 0
  · rcases kd_some hk with ⟨rfl, rfl⟩ | ⟨rfl, rfl⟩ | ⟨rfl, _⟩
    · exact checked_1 V xs ys r w h
    · exact checked_2 V xs ys r w h
    · exact checked_3 V n xs ys r w h hk
  · obtain ⟨a, c, rfl, _⟩ := id h
    obtain ⟨v, hv⟩ : ∃ v, kdE k r n = v := ⟨_, rfl⟩
    rw [hv] at hk
    have h1 := h.bel (bl_alloc (bl_refl w) #[.int .u8 k, .float .f64 r, .slice a n c] 44)
    go_enter Try.func50, Try.ntmps50
    go_wp2_with (first | (go_at_call 57; refine (kind_any _ _ xs ys k r _ h1).mono ?_; rintro e w' ⟨rfl, hb⟩; rw [kdR_no hv hk]))
    refine bodyPost_ret (v := .tuple #[.nilIface, .int .i64 v]) (by simp [results, Try.results50, go_sem] <;> (first | exact ⟨⟨rfl, rfl⟩, rfl⟩ | exact ⟨rfl, rfl, rfl, rfl⟩ | exact ⟨rfl, rfl, rfl⟩ | exact ⟨rfl, rfl⟩ | rfl)) rfl ⟨by unfold ckR; rw [sh_no hv hk, if_neg hk], ?_⟩
    repeat (first | exact bl_refl _ | assumption | apply bl_drewN | apply bl_drew | apply bl_alloc | refine bl_set ?_ (by simp <;> omega) | refine bl_trans ?_ (by assumption))
theorem check_any (V : Value) (n : Nat) (xs ys : Nat → Nat) (k : Int) (r : Nat) (w : World) (h : AnyS w V n xs ys) : Calls Try.prog 37 #[.agg #[.int .u8 k, .float .f64 r, V]] w fun e w' => e = .returned (.int .i64 (shE k r xs ys n)) ∧ Bel w w' := by
  obtain ⟨a, c, rfl, _⟩ := id h
  have h1 := h.bel (bl_alloc (bl_refl w) #[.int .u8 k, .float .f64 r, .slice a n c] 44)
  obtain ⟨X, hX⟩ : ∃ X, ckR k r n (.slice a n c) xs ys = .tuple #[X, .int .i64 (shE k r xs ys n)] := ⟨_, rfl⟩
  go_enter Try.func37, Try.ntmps37
  go_wp2_with (first | (go_at_call 50; refine (checked_any _ _ xs ys k r _ h1).mono ?_; rintro e w' ⟨rfl, hb⟩; rw [hX]))
  go_ret
  refine ⟨rfl, ?_⟩
  repeat (first | exact bl_refl _ | assumption | apply bl_drewN | apply bl_drew | apply bl_alloc | refine bl_set ?_ (by simp <;> omega) | refine bl_trans ?_ (by assumption))
/-- what checked says where a shape may not be; where it may -/
theorem ckR_no {k : Int} {r n : Nat} {V : Value} {xs ys : Nat → Nat} {v : Int} (h : shE k r xs ys n = v) (hv : ¬ v = 0) : ckR k r n V xs ys = .tuple #[.nilIface, .int .i64 v] := by
  unfold ckR; rw [h, if_neg hv]
theorem sh_kd {k : Int} {r n : Nat} {xs ys : Nat → Nat} (h : shE k r xs ys n = 0) : kdE k r n = 0 := by
  by_cases g : kdE k r n = 0
  · exact g
  · unfold shE at h; rw [if_neg g] at h; exact h
theorem ckR_1 {r : Nat} {V : Value} {xs ys : Nat → Nat} (h : shE 1 r xs ys 1 = 0) : ckR 1 r 1 V xs ys = .tuple #[.iface 84 (.agg #[.float .f64 (xs 0), .float .f64 (ys 0), .float .f64 r]), .int .i64 0] := by unfold ckR; rw [h]; rfl
theorem ckR_2 {r : Nat} {V : Value} {xs ys : Nat → Nat} (h : shE 2 r xs ys 2 = 0) : ckR 2 r 2 V xs ys = .tuple #[.iface 86 (.agg #[.float .f64 (xs 0), .float .f64 (ys 0), .float .f64 (xs 1), .float .f64 (ys 1), .float .f64 r]), .int .i64 0] := by unfold ckR; rw [h]; rfl
theorem ckR_3 {r n : Nat} {V : Value} {xs ys : Nat → Nat} (h : shE 3 r xs ys n = 0) : ckR 3 r n V xs ys = .tuple #[.iface 88 (.agg #[V]), .int .i64 0] := by unfold ckR; rw [h]; rfl
/-- a shape that may be: three kinds -/
theorem sh_some {k : Int} {r n : Nat} {xs ys : Nat → Nat} (o : Oks xs ys n) (hr : okK .f64 r) (h : shE k r xs ys n = 0) :
    (k = 1 ∧ n = 1 ∧ Gd xs ys 1 ∧ Bd 40 r ∧ rdB r = true) ∨ (k = 2 ∧ n = 2 ∧ Gd xs ys 2 ∧ Bd 40 r ∧ rdB r = true ∧ cpB (xs 0) (ys 0) (xs 1) (ys 1) = false) ∨ (k = 3 ∧ 3 ≤ n ∧ n ≤ 8 ∧ eqK .f64 r 0 = true ∧ chkE xs ys n = 0 ∧ Gd xs ys n) := by
  rcases kd_some (sh_kd h) with ⟨rfl, rfl⟩ | ⟨rfl, rfl⟩ | ⟨rfl, h3, h8, hz⟩
  · rw [sh_1] at h
    obtain ⟨a, b⟩ := rdE_ok h
    exact .inl ⟨rfl, rfl, gd_of o a, rd_bd hr b, b⟩
  · rw [sh_2] at h
    unfold ckE at h
    split at h
    · rename_i h0
      split at h
      · cases h
      · rename_i hc
        obtain ⟨a, b⟩ := rdE_ok h0
        exact .inr (.inl ⟨rfl, rfl, gd_of o a, rd_bd hr b, b, by simpa using hc⟩)
    · cases h
  · have hk := sh_kd h
    rw [sh_3 hk] at h
    exact .inr (.inr ⟨rfl, h3, h8, hz, h, (chk_ok o h).1⟩)

end Go.Proofs.Ytoofbfjlgablkaa
