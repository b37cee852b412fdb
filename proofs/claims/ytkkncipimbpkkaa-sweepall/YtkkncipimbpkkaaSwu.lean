/-
  What each function of package sweep answers, and what the reference of its chapter answers: one contract a function, for every list of boxes; of the memory that was there nothing has turned.
-/
import Derived.Test.YtkkncipimbpkkaaSws
import Derived.Test.YtkkncipimbpkkaaSwg
import Derived.Below
import Derived.BigQuiet
import Derived.OwnWalk
import Derived.Laws.AppendOwn
import Derived.Laws.AppendOwnNone
import Derived.WalkKit
import Derived.WalkLawsBesides
import Derived.WalkSpells
import Derived.ProofKit
import Derived.OpenShut
import Derived.Deep.RegionHeld3
import Derived.Deep.LoopGhost
namespace Go.Proofs.Ytkkncipimbpkkaa
open Go.ChangeShapes Go.WideShapes Go.ChangeAt Go.RowKit Go.Shelf Go.Lib Go.Sort
set_option linter.unusedVariables false
set_option linter.unusedSimpArgs false


set_option maxHeartbeats 4000000 in
theorem sameI_s (L : List Nat) (va vb : Value) (w : World) (ha : IRow w va L) (hb : IRow w vb L) (hl : L.length < 4611686018427387904) :
    Calls Try.prog 22 #[va, vb] w fun e w' => e = .returned (.bool true) ∧ Bel w w' := by
  obtain ⟨sa, ca, rfl, hA⟩ := ha
  obtain ⟨sb, cb, rfl, hB⟩ := hb
  obtain ⟨n, hn⟩ : ∃ n, L.length = n := ⟨_, rfl⟩
  have HN : Hid (L.length = n) := hn
  rw [hn] at hl ⊢
  clear hn
  go_enter Try.func22, Try.ntmps22
  go_wp2
  go_loopg [5] n (fun kx s5 wr => ∃ k : Nat, s5 = .int .i64 k ∧ k ≤ n ∧ n - k ≤ kx ∧ Bel w wr)
  case atStart => exact ⟨0, rfl, by omega, by omega, bl_refl _⟩
  case round =>
    obtain ⟨k, rfl, hk, hkx, hW⟩ := hrel
    by_cases hlt : k < n
    · have hltz : (k : Int) < (n : Int) := by omega
      have hwk : IntKind.wrap .i64 ((k : Int) + 1) = (k : Int) + 1 := by rw [IntKind.wrap_i64]; omega
      have hne : L ≠ [] := fun e => by have := HN.out; rw [e] at this; simp at this; omega
      obtain ⟨g, o, hsa, hIa⟩ : ∃ g o, sa = some ⟨g, o, none⟩ ∧ Is w g o L := by
        rcases hA with h | h
        · exact absurd h hne
        · exact h
      obtain ⟨g', o', hsb, hIb⟩ : ∃ g o, sb = some ⟨g, o, none⟩ ∧ Is w g o L := by
        rcases hB with h | h
        · exact absurd h hne
        · exact h
      clear hA hB hne
      subst hsa hsb
      obtain ⟨r, hr⟩ : ∃ r, L[k]? = some r := ⟨_, List.getElem?_eq_getElem (by rw [HN.out]; exact hlt)⟩
      have x0 := (hIa.bel hW) k r hr
      have x1 := (hIb.bel hW) k r hr
      haveI := belBy_some wr
      have y0 := belBy_cell x0
      have y1 := belBy_cell x1
      have rr : ((r : Int) != (r : Int)) = false := by simp
      go_wp2
      refine wp_region_quiet_bel (by kernel_rfl) (by kernel_rfl) ?_
      repeat (go_big_quiet_step (fail))
      refine wpQuiet_nil ?_
      rintro _ ⟨nq, rfl⟩
      go_wp2
      have hb2 := nq.h
      go_roundg (n - (k + 1))
      case measure => omega
      case rel => exact ⟨k + 1, by go_num, by omega, Nat.le_refl _, bl_trans hW hb2⟩
    · have hltz : ¬ (k : Int) < (n : Int) := by omega
      go_wp2
      go_ret
      exact ⟨rfl, hW⟩

theorem run_app0b (w : World) (ty c : Nat) (a : Option Addr) : (Builtin.append_ #[22, 22] ty #[.slice none 0 0, .slice a 0 c]).run Try.prog w = .ok (.slice none 0 0) w := by
  obtain ⟨i0, hi, hz0, hz1, hz2⟩ := info_parts info_box
  cases a <;> simp [Builtin.append_, run_underlying Try.underlying22, sizeOf, typeInfo, hi, Builtin.lenOf, Builtin.firstCells, loadCells, loadCellsFrom]
theorem wpList_runb {w : World} {v u v' : Value} {w' : World} {ops : Array Oper} {rest : List Oper} {o : Oper} {a : Act} {Q : Exit → Act → World → Prop} (hgd : o.guard = none) (s x : Operand)
    (ho : o.op = .call { callee := .builtin .append, args := #[s, x], argTypes := #[22, 22] }) (hv : a.eval s = v) (hx : a.eval x = u) (hrun : ∀ ty, (Builtin.append_ #[22, 22] ty #[v, u]).run Try.prog w = .ok v' w')
    (hK : wpList Try.prog ops Q rest (a.put o.dst v') w') : wpList Try.prog ops Q (o :: rest) a w := by
  refine wpList_plain hgd fun K hK' => ?_
  unfold Oper.wp
  simp [execOp, ho, resolve, invoke, builtin, hv, hx, hrun, Result.andThen]
  exact hK' _ _ hK
set_option maxRecDepth 100000 in
set_option maxHeartbeats 4000000 in
theorem lent_s (sa : Option Addr) (n cap : Nat) (B : Nat → Bo) (w : World) (hA : AnyB w sa n B) (hr : n * 32 ≤ 140737488351232) :
    Calls Try.prog 15 #[.slice sa n cap] w fun e w' => ∃ g c, e = .returned (.slice (some ⟨g, 0, none⟩) (n + 1) c) ∧ w.heap.size ≤ g ∧ n + 1 ≤ c ∧ c ≤ maxLen ∧ LenB w' g n B ∧ g < w'.heap.size ∧ Bel w w' := by
  have one : ∀ u ∈ ([.float .f64 4635118810238550016, .float .f64 0, .float .f64 0, .float .f64 0] : List Value), u.oneCell' = true := by
    intro u hu
    simp only [List.mem_cons, List.not_mem_nil, or_false] at hu
    rcases hu with rfl | rfl | rfl | rfl <;> rfl
  have own0 : OwnR 4 w.heap.size w (.slice none 0 0) 0 [] := OwnR.nil _ _ _
  have ap2 : True := trivial
  rcases hA with rfl | ⟨b, off, rfl, hB, hb0⟩
  · go_enter Try.func15, Try.ntmps15
    go_wp2_with (first | (have zn := m1; clear zn; at_builtin; refine wpList_appR (P := Try.prog) (sz := 4) (by_ := 32) (R := []) (N := [.float .f64 4635118810238550016, .float .f64 0, .float .f64 0, .float .f64 0]) 22 27 rfl _ _ rfl Try.underlying22 info_box rfl rfl _ 0 1 1 rfl (own0.bel (bl_alloc (bl_refl w) _ _)) rfl (mk_rw w [.float .f64 4635118810238550016, .float .f64 0, .float .f64 0, .float .f64 0] 27) one (by decide) (by simp only [World.size_alloc]; omega) (by unfold maxLen; omega) (by omega) ?_; intro v2 w2 hO2 hv2 hb2; obtain ⟨g, c, rfl⟩ := hv2; have B2 := hb2 w (bl_alloc (bl_refl w) _ _) (Nat.le_refl _)) | (at_builtin; refine wpList_runb rfl _ _ rfl rfl rfl (fun ty => run_app0b w ty cap sa) ?_; have m1 := hide True.intro))
    go_ret
    obtain ⟨q1, q2, q3, q4, q5⟩ := own_lenB (n := 0) (B := B) hO2
    exact ⟨g, c, rfl, q1, q2, q3, q4, q5, B2⟩
  · rcases Nat.eq_zero_or_pos n with h0 | h0
    · subst h0
      go_enter Try.func15, Try.ntmps15
      go_wp2_with (first | (have zn := m1; clear zn; at_builtin; refine wpList_appR (P := Try.prog) (sz := 4) (by_ := 32) (R := []) (N := [.float .f64 4635118810238550016, .float .f64 0, .float .f64 0, .float .f64 0]) 22 27 rfl _ _ rfl Try.underlying22 info_box rfl rfl _ 0 1 1 rfl (own0.bel (bl_alloc (bl_refl w) _ _)) rfl (mk_rw w [.float .f64 4635118810238550016, .float .f64 0, .float .f64 0, .float .f64 0] 27) one (by decide) (by simp only [World.size_alloc]; omega) (by unfold maxLen; omega) (by omega) ?_; intro v2 w2 hO2 hv2 hb2; obtain ⟨g, c, rfl⟩ := hv2; have B2 := hb2 w (bl_alloc (bl_refl w) _ _) (Nat.le_refl _)) | (at_builtin; refine wpList_runb rfl _ _ rfl rfl rfl (fun ty => run_app0b w ty cap (some ⟨b, off, none⟩)) ?_; have m1 := hide True.intro))
      go_ret
      obtain ⟨q1, q2, q3, q4, q5⟩ := own_lenB (n := 0) (B := B) hO2
      exact ⟨g, c, rfl, q1, q2, q3, q4, q5, B2⟩
    · go_enter Try.func15, Try.ntmps15
      go_wp2_with (first | (have zn := m1; clear zn; at_builtin; refine wpList_appR (P := Try.prog) (sz := 4) (by_ := 32) (R := bRow B n) (N := [.float .f64 4635118810238550016, .float .f64 0, .float .f64 0, .float .f64 0]) 22 27 rfl _ _ rfl Try.underlying22 info_box rfl rfl _ 0 1 1 rfl (hO1.bel (bl_alloc (bl_refl w1) _ _)) rfl (mk_rw w1 [.float .f64 4635118810238550016, .float .f64 0, .float .f64 0, .float .f64 0] 27) one (by decide) (by simp only [World.size_alloc]; omega) (by unfold maxLen; omega) (by omega) ?_; intro v2 w2 hO2 hv2 hb2; obtain ⟨g, c, rfl⟩ := hv2; have B2 := hb2 w (bl_alloc B1 _ _) (Nat.le_refl _)) | (at_builtin; refine wpList_appR (P := Try.prog) (sz := 4) (by_ := 32) (R := []) (N := bRow B n) 22 27 rfl _ _ rfl Try.underlying22 info_box rfl rfl b off n cap rfl own0 (bRow_length B n) (bs_rw hB) (bRow_one B n) h0 (Nat.le_refl _) (by unfold maxLen; omega) (by omega) ?_; intro v1 w1 hO1 hv1 hb1; obtain ⟨g1, c1, rfl⟩ := hv1; rw [List.nil_append] at hO1; simp only [Nat.zero_add] at hO1; have B1 := hb1 w (bl_refl w) (Nat.le_refl _); have hs1 := B1.size; have m1 := hide True.intro))
      go_ret
      obtain ⟨q1, q2, q3, q4, q5⟩ := own_lenB (n := n) (B := B) hO2
      exact ⟨g, c, rfl, q1, q2, q3, q4, q5, B2⟩

theorem sm_self (x : Nat) (h : okK .f64 x) : smK .f64 x x = true := smK_self _ _
theorem sameVec7 (x y : Nat) (w : World) (ox : okK .f64 x) (oy : okK .f64 y) : Calls Try.prog 50 #[.agg #[.float .f64 x, .float .f64 y], .agg #[.float .f64 x, .float .f64 y]] w fun e w' => e = .returned (.bool true) ∧ Bel w w' := by
  have s1 := sm_self x ox
  have s2 := sm_self y oy
  go_enter Try.func50, Try.ntmps50
  go_wp2_with (first | (have zn := m1; clear zn; go_at_call 58; refine (rSame_any _ _ _ oy oy).mono ?_; rintro e w2 ⟨rfl, hw⟩; rw [hw, s2]) | (go_at_call 58; refine (rSame_any _ _ _ ox ox).mono ?_; rintro e w1 ⟨rfl, hw⟩; rw [hw, s1]; have m1 := True.intro))
  go_ret
  refine ⟨rfl, ?_⟩
  repeat (first | exact bl_refl _ | assumption | apply bl_drewN | apply bl_drew | apply bl_alloc | refine bl_set ?_ (by simp <;> omega) | refine bl_trans ?_ (by assumption))
theorem sameBox_s (a : Bo) (w : World) (oa : okK .f64 a.1) (ob : okK .f64 a.2.1) (oc : okK .f64 a.2.2.1) (od : okK .f64 a.2.2.2) : Calls Try.prog 38 #[.agg #[.float .f64 a.1, .float .f64 a.2.1, .float .f64 a.2.2.1, .float .f64 a.2.2.2], .agg #[.float .f64 a.1, .float .f64 a.2.1, .float .f64 a.2.2.1, .float .f64 a.2.2.2]] w fun e w' => e = .returned (.bool true) ∧ Bel w w' := by
  obtain ⟨W1, hW1⟩ : ∃ W1, W1 = w.alloc (.cells #[.float .f64 a.1, .float .f64 a.2.1, .float .f64 a.2.2.1, .float .f64 a.2.2.2] 27) := ⟨_, rfl⟩
  have hka : Bk W1 w.heap.size a := by
    rw [hW1]
    exact ⟨by rw [World.cell?_alloc_new]; rfl, by rw [World.cell?_alloc_new]; rfl, by rw [World.cell?_alloc_new]; rfl, by rw [World.cell?_alloc_new]; rfl⟩
  have hs1 : W1.heap.size = w.heap.size + 1 := by rw [hW1]; exact World.size_alloc _ _
  have hky : Bk (W1.alloc (.cells #[.float .f64 a.1, .float .f64 a.2.1, .float .f64 a.2.2.1, .float .f64 a.2.2.2] 27)) (w.heap.size + 1) a := by
    rw [← hs1]
    exact ⟨by rw [World.cell?_alloc_new]; rfl, by rw [World.cell?_alloc_new]; rfl, by rw [World.cell?_alloc_new]; rfl, by rw [World.cell?_alloc_new]; rfl⟩
  replace hka := hka.bel (bl_alloc (bl_refl W1) #[.float .f64 a.1, .float .f64 a.2.1, .float .f64 a.2.2.1, .float .f64 a.2.2.2] 27)
  have B0 : Bel w (W1.alloc (.cells #[.float .f64 a.1, .float .f64 a.2.1, .float .f64 a.2.2.1, .float .f64 a.2.2.2] 27)) := by rw [hW1]; exact bl_alloc (bl_alloc (bl_refl _) _ _) _ _
  rw [hW1] at hka hky B0
  clear hW1 hs1
  obtain ⟨a0, a1, a2, a3⟩ := hka
  obtain ⟨y0, y1, y2, y3⟩ := hky
  go_enter Try.func38, Try.ntmps38
  go_wp2_with (first | (have zn := m1; clear zn; go_at_call 50; refine (sameVec7 _ _ _ oc od).mono ?_; rintro e w2 ⟨rfl, hb2⟩) | (go_at_call 50; refine (sameVec7 _ _ _ oa ob).mono ?_; rintro e w1 ⟨rfl, hb1⟩; have m1 := True.intro; replace a2 := keepB hb1 a2; replace a3 := keepB hb1 a3; replace y2 := keepB hb1 y2; replace y3 := keepB hb1 y3))
  go_ret
  exact ⟨rfl, bl_trans (bl_trans B0 hb1) hb2⟩
set_option maxRecDepth 100000 in
set_option maxHeartbeats 4000000 in
theorem kept_s (g c : Nat) (sa : Option Addr) (n cap : Nat) (B : Nat → Bo) (w : World) (hL : LenB w g n B) (hA : AnyB w sa n B) (ho : ∀ i, i < n → okK .f64 (B i).1 ∧ okK .f64 (B i).2.1 ∧ okK .f64 (B i).2.2.1 ∧ okK .f64 (B i).2.2.2) (hr : n * 32 ≤ 140737488351232) :
    Calls Try.prog 18 #[.slice (some ⟨g, 0, none⟩) (n + 1) c, .slice sa n cap] w fun e w' => e = .returned (.bool true) ∧ Bel w w' := by
  have q0 := cmp_eq .f64
  have q1 := fun (x y : Nat) (w : World) => run_equalIn_float Try.prog w 23 .f64 x y Try.underlying23
  have q3 := fun (d x y : Nat) (w : World) => run_equalIn_fl Try.prog w d 23 .f64 x y Try.underlying23
  have q4 := fun (x y : Nat) (w : World) => run_equalIn_fl Try.prog w 9997 23 .f64 x y Try.underlying23
  have q5 := fun (x y : Nat) (w : World) => run_equalIn_fl Try.prog w 9996 23 .f64 x y Try.underlying23
  have e77 : eqK .f64 4635118810238550016 4635118810238550016 = true := by decide +kernel
  have e00 : eqK .f64 0 0 = true := by decide +kernel
  have i5 : (n : Int) < (n : Int) + 1 := by omega
  go_enter Try.func18, Try.ntmps18
  go_wp2
  go_loopg [5] n (fun kx s5 wr => ∃ k : Nat, s5 = .int .i64 k ∧ k ≤ n ∧ n - k ≤ kx ∧ Bel w wr)
  case atStart => exact ⟨0, rfl, by omega, by omega, bl_refl _⟩
  case round =>
    obtain ⟨k, rfl, hk, hkx, hW⟩ := hrel
    by_cases hlt : k < n
    · have hltz : (k : Int) < (n : Int) := by omega
      have hltz1 : (k : Int) < (n : Int) + 1 := by omega
      have hwk : IntKind.wrap .i64 ((k : Int) + 1) = (k : Int) + 1 := by rw [IntKind.wrap_i64]; omega
      obtain ⟨b, off, hsa, hB, hb0⟩ : ∃ b off, sa = some ⟨b, off, none⟩ ∧ Bs w b off n B ∧ b < w.heap.size := by
        rcases hA with h0 | h0
        · omega
        · exact h0
      clear hA
      subst hsa
      obtain ⟨x0, x1, x2, x3⟩ := (hB.bel hW) k hlt
      obtain ⟨z0, z1, z2, z3⟩ := (hL.1.bel hW) k hlt
      rw [Nat.zero_add] at z0 z1 z2 z3
      obtain ⟨o0, o1, o2, o3⟩ := ho k hlt
      haveI := belBy_some wr
      have y0 := belBy_cell x0
      have y1 := belBy_cell x1
      have y2 := belBy_cell x2
      have y3 := belBy_cell x3
      have v0 := belBy_cell z0
      have v1 := belBy_cell z1
      have v2 := belBy_cell z2
      have v3 := belBy_cell z3
      go_wp2
      refine wp_region_quiet_bel (by kernel_rfl) (by kernel_rfl) ?_
      repeat (go_big_quiet_step (first | (go_at_call 38; exact calls_bel (sameBox_s (B k) _ o0 o1 o2 o3))))
      refine wpQuiet_nil ?_
      rintro _ ⟨nq, rfl⟩
      go_wp2
      have hb2 := nq.h
      go_roundg (n - (k + 1))
      case measure => omega
      case rel => exact ⟨k + 1, by go_num, by omega, Nat.le_refl _, bl_trans hW hb2⟩
    · have hltz : ¬ (k : Int) < (n : Int) := by omega
      obtain ⟨m0, m1, m2, m3⟩ := hL.2
      have n0 := keepB hW m0
      have n1 := keepB hW m1
      have n2 := keepB hW m2
      have n3 := keepB hW m3
      go_wp2
      go_ret
      exact ⟨by first | rfl | simp [e77, e00], by repeat (first | exact bl_refl _ | assumption | apply bl_drewN | apply bl_drew | apply bl_alloc | refine bl_set ?_ (by simp <;> omega) | refine bl_trans ?_ (by assumption))⟩

end Go.Proofs.Ytkkncipimbpkkaa
