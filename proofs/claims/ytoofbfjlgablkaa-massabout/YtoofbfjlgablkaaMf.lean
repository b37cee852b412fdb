/-
  What each function of package poly answers, and what the reference of its chapter answers: one contract a function, for every float: the answer stands in the relation of its formula to what was given; of the memory that was there nothing has turned.
-/
import Derived.Test.YtoofbfjlgablkaaVec
import Derived.Test.YtoofbfjlgablkaaMe
import Derived.Test.YtoofbfjlgablkaaMau
import Derived.Below
import Derived.WalkKit
import Derived.WalkLawsBesides
import Derived.WalkSpells
import Derived.ProofKit
import Derived.OpenShut
import Derived.Deep.RegionHeld3
namespace Go.Proofs.Ytoofbfjlgablkaa
open Go.ChangeShapes Go.WideShapes Go.ChangeAt Go.RowKit
set_option linter.unusedVariables false
set_option linter.unusedSimpArgs false


/-- a row of masses -/
def Ml (w : World) (b off n : Nat) (ms js xs ys : Nat → Nat) : Prop := ∀ i, i < n → w.cell? ⟨b, off + i * 4, none⟩ = some (.float .f64 (ms i)) ∧ w.cell? ⟨b, off + i * 4 + 1, none⟩ = some (.float .f64 (js i)) ∧ w.cell? ⟨b, off + i * 4 + 2, none⟩ = some (.float .f64 (xs i)) ∧ w.cell? ⟨b, off + i * 4 + 3, none⟩ = some (.float .f64 (ys i))
theorem Ml.bel {w w' : World} {b off n : Nat} {ms js xs ys : Nat → Nat} (h : Ml w b off n ms js xs ys) (g : Bel w w') : Ml w' b off n ms js xs ys := fun i hi => ⟨keep g (h i hi).1, keep g (h i hi).2.1, keep g (h i hi).2.2.1, keep g (h i hi).2.2.2⟩
theorem Ml.lt {w : World} {b off n : Nat} {ms js xs ys : Nat → Nat} (h : Ml w b off n ms js xs ys) (hn : 0 < n) : b < w.heap.size := World.block_lt_of_cell? w _ (h 0 hn).1
theorem jn1_any (ma ia cx cy : Nat) (w : World) : Calls Try.prog 20 #[.agg #[.float .f64 ma, .float .f64 ia, .float .f64 cx, .float .f64 cy]] w fun e w' => ∃ t, t = ma ∧ e = .returned (.float .f64 t) ∧ Bel w w' := by
  go_enter Try.func20, Try.ntmps20
  go_wp2
  go_ret
  refine ⟨_, rfl, rfl, ?_⟩
  repeat (first | exact bl_refl _ | assumption | apply bl_drewN | apply bl_drew | apply bl_alloc | refine bl_set ?_ (by simp <;> omega) | refine bl_trans ?_ (by assumption))
theorem jn2_any (ma ia cx cy : Nat) (w : World) : Calls Try.prog 21 #[.agg #[.float .f64 ma, .float .f64 ia, .float .f64 cx, .float .f64 cy]] w fun e w' => ∃ t, resK .mul .f64 ma cx t ∧ e = .returned (.float .f64 t) ∧ Bel w w' := by
  have q1 := run_mul Try.prog
  go_enter Try.func21, Try.ntmps21
  go_wp2
  go_ret
  refine ⟨_, fv_res .mul .f64 _ _ _, rfl, ?_⟩
  repeat (first | exact bl_refl _ | assumption | apply bl_drewN | apply bl_drew | apply bl_alloc | refine bl_set ?_ (by simp <;> omega) | refine bl_trans ?_ (by assumption))
theorem jn3_any (ma ia cx cy : Nat) (w : World) : Calls Try.prog 22 #[.agg #[.float .f64 ma, .float .f64 ia, .float .f64 cx, .float .f64 cy]] w fun e w' => ∃ t, resK .mul .f64 ma cy t ∧ e = .returned (.float .f64 t) ∧ Bel w w' := by
  have q1 := run_mul Try.prog
  go_enter Try.func22, Try.ntmps22
  go_wp2
  go_ret
  refine ⟨_, fv_res .mul .f64 _ _ _, rfl, ?_⟩
  repeat (first | exact bl_refl _ | assumption | apply bl_drewN | apply bl_drew | apply bl_alloc | refine bl_set ?_ (by simp <;> omega) | refine bl_trans ?_ (by assumption))
theorem jn4_any (ma ia cx cy : Nat) (c px py : Nat) (w : World) (c0 : w.cell? ⟨c, 0, none⟩ = some (.float .f64 px)) (c1 : w.cell? ⟨c, 1, none⟩ = some (.float .f64 py)) : Calls Try.prog 23 #[.agg #[.float .f64 ma, .float .f64 ia, .float .f64 cx, .float .f64 cy], .pointer (some ⟨c, 0, none⟩)] w fun e w' => ∃ t, AboutR ma ia cx cy px py t ∧ e = .returned (.float .f64 t) ∧ Bel w w' := by
  have lc := World.block_lt_of_cell? _ _ c0
  simp only at lc
  have c0' := up_alloc (o := .cells #[.float .f64 ma, .float .f64 ia, .float .f64 cx, .float .f64 cy] 28) c0
  have c1' := up_alloc (o := .cells #[.float .f64 ma, .float .f64 ia, .float .f64 cx, .float .f64 cy] 28) c1
  go_enter Try.func23, Try.ntmps23
  go_wp2_with (first | (go_at_call 24; refine (about_any _ _ _ _ _ _ _).mono ?_; rintro e w' ⟨t, hT, rfl, hb⟩))
  go_ret
  refine ⟨_, hT, rfl, ?_⟩
  repeat (first | exact bl_refl _ | assumption | apply bl_drewN | apply bl_drew | apply bl_alloc | refine bl_set ?_ (by simp <;> omega) | refine bl_trans ?_ (by assumption))

set_option maxRecDepth 100000 in
set_option maxHeartbeats 2000000 in
theorem sumOf1_any (b off n cap : Nat) (ms js xs ys : Nat → Nat) (w : World) (hM : Ml w b off n ms js xs ys) (hp : 0 < n) (hn : n ≤ 20000) (hcap : n ≤ cap) : Calls Try.prog 19 #[.slice (some ⟨b, off, none⟩) n cap, .func (.func 20) #[] #[]] w fun e w' => ∃ r, SumR n (fun q t => t = ms q) r ∧ e = .returned (.float .f64 r) ∧ Bel w w' := by
  have lb := hM.lt hp
  have hmk := make_fl n (by omega)
  go_enter Try.func19, Try.ntmps19
  go_wp2
  go_loopw [13] (fun i' wr => ∃ (k : Nat) (ts : Nat → Nat), k ≤ n ∧ i' = .int .i64 k ∧ Bel w wr ∧ (∀ q, q < k → (fun q t => t = ms q) q (ts q)) ∧ (∀ q, q < n → wr.cell? ⟨w.heap.size, q, none⟩ = some (.float .f64 (if q < k then ts q else 0)))) (fun i' _ => n - (intOf i').toNat)
  case atStart =>
    refine ⟨0, fun _ => 0, by omega, rfl, bl_alloc (bl_refl w) _ _, fun q hq => by omega, fun q hq => ?_⟩
    simpa using made_fl w 24 n q hq
  case round =>
    obtain ⟨k, ts, hk, rfl, hB, hts, hRs⟩ := hrel
    by_cases hlt : k < n
    · have k1 : (k : Int) < (n : Int) := by omega
      have hbb : b < wr.heap.size := Nat.lt_of_lt_of_le lb hB.size
      obtain ⟨m0, m1, m2, m3⟩ := (hM.bel hB) k hlt
      have lR := World.block_lt_of_cell? _ _ (hRs k hlt)
      simp only at lR
      go_wp2_with (first | (go_at_call 20; refine (jn1_any _ _ _ _ _).mono ?_; rintro e w_2 ⟨t, rfl, rfl, hb⟩; have BT := bl_trans (bl_alloc (bl_refl wr) _ _) hb; have kR := keep BT (hRs k hlt); have fR : ∀ o, w_2.frozen? ⟨w.heap.size, o, none⟩ = false := fun o => (BT.2 _).trans ((hB.2 _).trans (fresh_frozen (by omega)))))
      refine ⟨⟨k + 1, fun q => if q = k then (ms k) else ts q, by omega, by go_num, bl_set (bl_trans hB BT) (Nat.le_refl _), ?_, ?_⟩, by simp [intOf]; omega⟩
      · intro q hq
        by_cases e : q = k
        · subst e; simp
        · simp only [if_neg e]; exact hts q (by omega)
      · intro q hq
        by_cases e : q = k
        · subst e
          simp only [if_pos (Nat.lt_succ_self q), if_true]
          exact World.cell?_setCell_same _ _ _ kR
        · refine (set_else (.inr (fun h => e h.symm))).trans (keep BT ((hRs q hq).trans ?_))
          by_cases h : q < k
          · simp only [if_pos h, if_pos (show q < k + 1 by omega), if_neg e]
          · simp only [if_neg h, if_neg (show ¬ q < k + 1 by omega)]
    · have hkn : k = n := by omega
      subst hkn
      obtain ⟨p, rfl⟩ : ∃ p, k = p + 1 := ⟨k - 1, by omega⟩
      have hc : ∀ q, q < p + 1 → wr.cell? ⟨w.heap.size, 0 + q, none⟩ = some (.float .f64 (ts q)) := fun q hq => by
        have h := hRs q hq
        rw [if_pos hq] at h
        rw [Nat.zero_add]
        exact h
      go_wp2_with (first | (go_at_call 42; refine (sum_some _ 0 p _ ts _ (by unfold maxLen; omega) (by omega) hc).mono ?_; rintro e w' ⟨r, m, hr, rfl, rfl⟩))
      go_ret
      exact ⟨r, ⟨ts, hts, hr⟩, rfl, bl_drewN hB _⟩

set_option maxRecDepth 100000 in
set_option maxHeartbeats 2000000 in
theorem sumOf2_any (b off n cap : Nat) (ms js xs ys : Nat → Nat) (w : World) (hM : Ml w b off n ms js xs ys) (hp : 0 < n) (hn : n ≤ 20000) (hcap : n ≤ cap) : Calls Try.prog 19 #[.slice (some ⟨b, off, none⟩) n cap, .func (.func 21) #[] #[]] w fun e w' => ∃ r, SumR n (fun q t => resK .mul .f64 (ms q) (xs q) t) r ∧ e = .returned (.float .f64 r) ∧ Bel w w' := by
  have lb := hM.lt hp
  have hmk := make_fl n (by omega)
  go_enter Try.func19, Try.ntmps19
  go_wp2
  go_loopw [13] (fun i' wr => ∃ (k : Nat) (ts : Nat → Nat), k ≤ n ∧ i' = .int .i64 k ∧ Bel w wr ∧ (∀ q, q < k → (fun q t => resK .mul .f64 (ms q) (xs q) t) q (ts q)) ∧ (∀ q, q < n → wr.cell? ⟨w.heap.size, q, none⟩ = some (.float .f64 (if q < k then ts q else 0)))) (fun i' _ => n - (intOf i').toNat)
  case atStart =>
    refine ⟨0, fun _ => 0, by omega, rfl, bl_alloc (bl_refl w) _ _, fun q hq => by omega, fun q hq => ?_⟩
    simpa using made_fl w 24 n q hq
  case round =>
    obtain ⟨k, ts, hk, rfl, hB, hts, hRs⟩ := hrel
    by_cases hlt : k < n
    · have k1 : (k : Int) < (n : Int) := by omega
      have hbb : b < wr.heap.size := Nat.lt_of_lt_of_le lb hB.size
      obtain ⟨m0, m1, m2, m3⟩ := (hM.bel hB) k hlt
      have lR := World.block_lt_of_cell? _ _ (hRs k hlt)
      simp only at lR
      go_wp2_with (first | (go_at_call 21; refine (jn2_any _ _ _ _ _).mono ?_; rintro e w_2 ⟨t, hT, rfl, hb⟩; have BT := bl_trans (bl_alloc (bl_refl wr) _ _) hb; have kR := keep BT (hRs k hlt); have fR : ∀ o, w_2.frozen? ⟨w.heap.size, o, none⟩ = false := fun o => (BT.2 _).trans ((hB.2 _).trans (fresh_frozen (by omega)))))
      refine ⟨⟨k + 1, fun q => if q = k then t else ts q, by omega, by go_num, bl_set (bl_trans hB BT) (Nat.le_refl _), ?_, ?_⟩, by simp [intOf]; omega⟩
      · intro q hq
        by_cases e : q = k
        · subst e; simp only [if_true]; exact hT
        · simp only [if_neg e]; exact hts q (by omega)
      · intro q hq
        by_cases e : q = k
        · subst e
          simp only [if_pos (Nat.lt_succ_self q), if_true]
          exact World.cell?_setCell_same _ _ _ kR
        · refine (set_else (.inr (fun h => e h.symm))).trans (keep BT ((hRs q hq).trans ?_))
          by_cases h : q < k
          · simp only [if_pos h, if_pos (show q < k + 1 by omega), if_neg e]
          · simp only [if_neg h, if_neg (show ¬ q < k + 1 by omega)]
    · have hkn : k = n := by omega
      subst hkn
      obtain ⟨p, rfl⟩ : ∃ p, k = p + 1 := ⟨k - 1, by omega⟩
      have hc : ∀ q, q < p + 1 → wr.cell? ⟨w.heap.size, 0 + q, none⟩ = some (.float .f64 (ts q)) := fun q hq => by
        have h := hRs q hq
        rw [if_pos hq] at h
        rw [Nat.zero_add]
        exact h
      go_wp2_with (first | (go_at_call 42; refine (sum_some _ 0 p _ ts _ (by unfold maxLen; omega) (by omega) hc).mono ?_; rintro e w' ⟨r, m, hr, rfl, rfl⟩))
      go_ret
      exact ⟨r, ⟨ts, hts, hr⟩, rfl, bl_drewN hB _⟩

set_option maxRecDepth 100000 in
set_option maxHeartbeats 2000000 in
theorem sumOf3_any (b off n cap : Nat) (ms js xs ys : Nat → Nat) (w : World) (hM : Ml w b off n ms js xs ys) (hp : 0 < n) (hn : n ≤ 20000) (hcap : n ≤ cap) : Calls Try.prog 19 #[.slice (some ⟨b, off, none⟩) n cap, .func (.func 22) #[] #[]] w fun e w' => ∃ r, SumR n (fun q t => resK .mul .f64 (ms q) (ys q) t) r ∧ e = .returned (.float .f64 r) ∧ Bel w w' := by
  have lb := hM.lt hp
  have hmk := make_fl n (by omega)
  go_enter Try.func19, Try.ntmps19
  go_wp2
  go_loopw [13] (fun i' wr => ∃ (k : Nat) (ts : Nat → Nat), k ≤ n ∧ i' = .int .i64 k ∧ Bel w wr ∧ (∀ q, q < k → (fun q t => resK .mul .f64 (ms q) (ys q) t) q (ts q)) ∧ (∀ q, q < n → wr.cell? ⟨w.heap.size, q, none⟩ = some (.float .f64 (if q < k then ts q else 0)))) (fun i' _ => n - (intOf i').toNat)
  case atStart =>
    refine ⟨0, fun _ => 0, by omega, rfl, bl_alloc (bl_refl w) _ _, fun q hq => by omega, fun q hq => ?_⟩
    simpa using made_fl w 24 n q hq
  case round =>
    obtain ⟨k, ts, hk, rfl, hB, hts, hRs⟩ := hrel
    by_cases hlt : k < n
    · have k1 : (k : Int) < (n : Int) := by omega
      have hbb : b < wr.heap.size := Nat.lt_of_lt_of_le lb hB.size
      obtain ⟨m0, m1, m2, m3⟩ := (hM.bel hB) k hlt
      have lR := World.block_lt_of_cell? _ _ (hRs k hlt)
      simp only at lR
      go_wp2_with (first | (go_at_call 22; refine (jn3_any _ _ _ _ _).mono ?_; rintro e w_2 ⟨t, hT, rfl, hb⟩; have BT := bl_trans (bl_alloc (bl_refl wr) _ _) hb; have kR := keep BT (hRs k hlt); have fR : ∀ o, w_2.frozen? ⟨w.heap.size, o, none⟩ = false := fun o => (BT.2 _).trans ((hB.2 _).trans (fresh_frozen (by omega)))))
      refine ⟨⟨k + 1, fun q => if q = k then t else ts q, by omega, by go_num, bl_set (bl_trans hB BT) (Nat.le_refl _), ?_, ?_⟩, by simp [intOf]; omega⟩
      · intro q hq
        by_cases e : q = k
        · subst e; simp only [if_true]; exact hT
        · simp only [if_neg e]; exact hts q (by omega)
      · intro q hq
        by_cases e : q = k
        · subst e
          simp only [if_pos (Nat.lt_succ_self q), if_true]
          exact World.cell?_setCell_same _ _ _ kR
        · refine (set_else (.inr (fun h => e h.symm))).trans (keep BT ((hRs q hq).trans ?_))
          by_cases h : q < k
          · simp only [if_pos h, if_pos (show q < k + 1 by omega), if_neg e]
          · simp only [if_neg h, if_neg (show ¬ q < k + 1 by omega)]
    · have hkn : k = n := by omega
      subst hkn
      obtain ⟨p, rfl⟩ : ∃ p, k = p + 1 := ⟨k - 1, by omega⟩
      have hc : ∀ q, q < p + 1 → wr.cell? ⟨w.heap.size, 0 + q, none⟩ = some (.float .f64 (ts q)) := fun q hq => by
        have h := hRs q hq
        rw [if_pos hq] at h
        rw [Nat.zero_add]
        exact h
      go_wp2_with (first | (go_at_call 42; refine (sum_some _ 0 p _ ts _ (by unfold maxLen; omega) (by omega) hc).mono ?_; rintro e w' ⟨r, m, hr, rfl, rfl⟩))
      go_ret
      exact ⟨r, ⟨ts, hts, hr⟩, rfl, bl_drewN hB _⟩

set_option maxRecDepth 100000 in
set_option maxHeartbeats 2000000 in
theorem sumOf4_any (b off n cap : Nat) (ms js xs ys : Nat → Nat) (w : World) (hM : Ml w b off n ms js xs ys) (c px py : Nat) (c0 : w.cell? ⟨c, 0, none⟩ = some (.float .f64 px)) (c1 : w.cell? ⟨c, 1, none⟩ = some (.float .f64 py)) (hp : 0 < n) (hn : n ≤ 20000) (hcap : n ≤ cap) : Calls Try.prog 19 #[.slice (some ⟨b, off, none⟩) n cap, .func (.func 23) #[] #[.pointer (some ⟨c, 0, none⟩)]] w fun e w' => ∃ r, SumR n (fun q t => AboutR (ms q) (js q) (xs q) (ys q) px py t) r ∧ e = .returned (.float .f64 r) ∧ Bel w w' := by
  have lb := hM.lt hp
  have hmk := make_fl n (by omega)
  go_enter Try.func19, Try.ntmps19
  go_wp2
  go_loopw [13] (fun i' wr => ∃ (k : Nat) (ts : Nat → Nat), k ≤ n ∧ i' = .int .i64 k ∧ Bel w wr ∧ (∀ q, q < k → (fun q t => AboutR (ms q) (js q) (xs q) (ys q) px py t) q (ts q)) ∧ (∀ q, q < n → wr.cell? ⟨w.heap.size, q, none⟩ = some (.float .f64 (if q < k then ts q else 0)))) (fun i' _ => n - (intOf i').toNat)
  case atStart =>
    refine ⟨0, fun _ => 0, by omega, rfl, bl_alloc (bl_refl w) _ _, fun q hq => by omega, fun q hq => ?_⟩
    simpa using made_fl w 24 n q hq
  case round =>
    obtain ⟨k, ts, hk, rfl, hB, hts, hRs⟩ := hrel
    by_cases hlt : k < n
    · have k1 : (k : Int) < (n : Int) := by omega
      have hbb : b < wr.heap.size := Nat.lt_of_lt_of_le lb hB.size
      obtain ⟨m0, m1, m2, m3⟩ := (hM.bel hB) k hlt
      have lR := World.block_lt_of_cell? _ _ (hRs k hlt)
      simp only at lR
      have lc := World.block_lt_of_cell? _ _ c0
      simp only at lc
      have kc0 := up_alloc (o := .cells #[.float .f64 (ms k), .float .f64 (js k), .float .f64 (xs k), .float .f64 (ys k)] 28) (keep hB c0)
      have kc1 := up_alloc (o := .cells #[.float .f64 (ms k), .float .f64 (js k), .float .f64 (xs k), .float .f64 (ys k)] 28) (keep hB c1)
      go_wp2_with (first | (go_at_call 23; refine (jn4_any _ _ _ _ c px py _ kc0 kc1).mono ?_; rintro e w_2 ⟨t, hT, rfl, hb⟩; have BT := bl_trans (bl_alloc (bl_refl wr) _ _) hb; have kR := keep BT (hRs k hlt); have fR : ∀ o, w_2.frozen? ⟨w.heap.size, o, none⟩ = false := fun o => (BT.2 _).trans ((hB.2 _).trans (fresh_frozen (by omega)))))
      refine ⟨⟨k + 1, fun q => if q = k then t else ts q, by omega, by go_num, bl_set (bl_trans hB BT) (Nat.le_refl _), ?_, ?_⟩, by simp [intOf]; omega⟩
      · intro q hq
        by_cases e : q = k
        · subst e; simp only [if_true]; exact hT
        · simp only [if_neg e]; exact hts q (by omega)
      · intro q hq
        by_cases e : q = k
        · subst e
          simp only [if_pos (Nat.lt_succ_self q), if_true]
          exact World.cell?_setCell_same _ _ _ kR
        · refine (set_else (.inr (fun h => e h.symm))).trans (keep BT ((hRs q hq).trans ?_))
          by_cases h : q < k
          · simp only [if_pos h, if_pos (show q < k + 1 by omega), if_neg e]
          · simp only [if_neg h, if_neg (show ¬ q < k + 1 by omega)]
    · have hkn : k = n := by omega
      subst hkn
      obtain ⟨p, rfl⟩ : ∃ p, k = p + 1 := ⟨k - 1, by omega⟩
      have hc : ∀ q, q < p + 1 → wr.cell? ⟨w.heap.size, 0 + q, none⟩ = some (.float .f64 (ts q)) := fun q hq => by
        have h := hRs q hq
        rw [if_pos hq] at h
        rw [Nat.zero_add]
        exact h
      go_wp2_with (first | (go_at_call 42; refine (sum_some _ 0 p _ ts _ (by unfold maxLen; omega) (by omega) hc).mono ?_; rintro e w' ⟨r, m, hr, rfl, rfl⟩))
      go_ret
      exact ⟨r, ⟨ts, hts, hr⟩, rfl, bl_drewN hB _⟩

set_option maxRecDepth 100000 in
set_option maxHeartbeats 400000 in
theorem sumOf0_any (v : Option Addr) (cap : Nat) (w : World) : Calls Try.prog 19 #[.slice v 0 cap, .func (.func 20) #[] #[]] w fun e w' => e = .returned (.float .f64 0) ∧ Bel w w' := by
  have hmk : (Instr.makeSlice 67 (.int .i64 0) (.int .i64 0)).run Try.prog w = .ok (.slice (some ⟨w.heap.size, 0, none⟩) 0 0) (w.alloc (.cells (madeCells #[.float .f64 0] 0) 24)) := make_fl 0 (by omega) w
  go_enter Try.func19, Try.ntmps19
  go_wp2
  go_loopw [13] (fun i' wr => i' = .int .i64 0 ∧ Bel w wr) (fun i' _ => 0)
  case atStart => exact ⟨rfl, bl_alloc (bl_refl w) _ _⟩
  case round =>
    obtain ⟨rfl, hB⟩ := hrel
    go_wp2_with (first | (go_at_call 42; refine (sum_none _ _ _).mono ?_; rintro e w' ⟨rfl, rfl⟩))
    go_ret
    exact ⟨rfl, hB⟩

end Go.Proofs.Ytoofbfjlgablkaa
