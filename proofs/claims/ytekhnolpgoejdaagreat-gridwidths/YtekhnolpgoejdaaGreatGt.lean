/-
  What each function of package grid answers: one contract a function.
-/
import Derived.Test.YtekhnolpgoejdaaGreatGs
import Derived.Test.YtekhnolpgoejdaaGreatSwg
import Derived.Laws.FloatArith
import Derived.Laws.StructEq
import Derived.Deep.DeepCutAuto
import Derived.Laws.MakeOwn
import Derived.Below
import Derived.BigQuiet
import Derived.OwnWalk
import Derived.Laws.AppendOwn
import Derived.Laws.AppendOwnNone
import Derived.WalkKit
import Derived.WalkLawsBesides
import Derived.WalkSpells
import Derived.ProofKit
import Derived.OpenShut
import Derived.Deep.RegionHeld3
import Derived.Deep.LoopGhost
namespace Go.Proofs.YtekhnolpgoejdaaGreat
open Go.ChangeShapes Go.WideShapes Go.ChangeAt Go.RowKit Go.Shelf Go.Lib Go.Sort
set_option linter.unusedVariables false
set_option linter.unusedSimpArgs false


theorem info_box14 : (Tryz.prog.info? 37).map (fun i => (i.zero, i.size, i.bytes)) = some (some (.agg #[.float .f64 0, .float .f64 0, .float .f64 0, .float .f64 0]), 4, 32) := by kernel_rfl
/-- boxes that were lent: in memory of their own, with two marks behind -/
structure LenM (w : World) (g n : Nat) (B : Nat → Bo) : Prop where
  bs : Bs w g 0 n B
  m0 : w.cell? ⟨g, n * 4, none⟩ = some (.float .f64 4635118810238550016)
  m1 : w.cell? ⟨g, (n + 1) * 4, none⟩ = some (.float .f64 4635189178982727680)
theorem LenM.below {w w' : World} {g n : Nat} {B : Nat → Bo} (h : LenM w g n B) (b : Below w.heap.size w w') : LenM w' g n B := ⟨h.bs.below b, (b.cell (World.block_lt_of_cell? _ _ h.m0)).trans h.m0, (b.cell (World.block_lt_of_cell? _ _ h.m1)).trans h.m1⟩
theorem LenM.lt {w : World} {g n : Nat} {B : Nat → Bo} (h : LenM w g n B) : g < w.heap.size := World.block_lt_of_cell? _ _ h.m0
theorem LenM.any {w : World} {g n : Nat} {B : Nat → Bo} (h : LenM w g n B) : AnyB w (some ⟨g, 0, none⟩) n B := .inr ⟨g, 0, rfl, h.bs, h.lt⟩
theorem own_lenM {base : Nat} {w : World} {g cap n : Nat} {B : Nat → Bo} (h : OwnR 4 base w (.slice (some ⟨g, 0, none⟩) (n + 2) cap) (n + 2) (bRow B n ++ [.float .f64 4635118810238550016, .float .f64 0, .float .f64 0, .float .f64 0, .float .f64 4635189178982727680, .float .f64 0, .float .f64 0, .float .f64 0])) : base ≤ g ∧ n + 2 ≤ cap ∧ cap ≤ maxLen ∧ LenM w g n B := by
  rcases h.2 with ⟨e, _⟩ | ⟨g', cp, e, h1, h2, h3, h4, _⟩
  · cases e
  · cases e
    have hr : Rw w g 0 (bRow B n ++ [.float .f64 4635118810238550016, .float .f64 0, .float .f64 0, .float .f64 0, .float .f64 4635189178982727680, .float .f64 0, .float .f64 0, .float .f64 0]) := h4
    have hat : ∀ (k : Nat) (v : Value), ([.float .f64 4635118810238550016, .float .f64 0, .float .f64 0, .float .f64 0, .float .f64 4635189178982727680, .float .f64 0, .float .f64 0, .float .f64 0] : List Value)[k]? = some v → w.cell? ⟨g, n * 4 + k, none⟩ = some v := fun k v hk => by
      have hkl : k < 8 := by
        rcases Nat.lt_or_ge k 8 with h' | h'
        · exact h'
        · rw [List.getElem?_eq_none (by simpa using h')] at hk; cases hk
      have := h4 (n * 4 + k) v (by rw [List.getElem?_append_right (by rw [bRow_length]; omega), bRow_length, Nat.add_sub_cancel_left]; exact hk)
      rwa [Nat.zero_add] at this
    refine ⟨h1, h2, by first | exact h3 | omega, rw_bs (Rw.left hr), hat 0 _ rfl, ?_⟩
    have := hat 4 _ rfl
    rwa [show n * 4 + 4 = (n + 1) * 4 by omega] at this
theorem marks_one : ∀ u ∈ ([.float .f64 4635118810238550016, .float .f64 0, .float .f64 0, .float .f64 0, .float .f64 4635189178982727680, .float .f64 0, .float .f64 0, .float .f64 0] : List Value), u.oneCell' = true := by
  intro u hu
  simp only [List.mem_cons, List.not_mem_nil, or_false] at hu
  rcases hu with rfl | rfl | rfl | rfl | rfl | rfl | rfl | rfl <;> rfl
theorem own_empty (base : Nat) (w : World) (t : TypeId) (h : base ≤ w.heap.size) : OwnR 4 base (w.alloc (.cells #[] t)) (.slice (some ⟨w.heap.size, 0, none⟩) 0 0) 0 [] :=
  ⟨rfl, .inr ⟨w.heap.size, 0, rfl, h, Nat.le_refl _, by unfold maxLen; decide, fun j u hj => by simp at hj, fun j hj => by omega, fun o => heap_frozen (alloc_at w _)⟩⟩
theorem run_app0c (w : World) (ty c : Nat) (a s : Option Addr) (c0 : Nat) : (Builtin.append_ #[22, 22] ty #[.slice s 0 c0, .slice a 0 c]).run Tryz.prog w = .ok (.slice s 0 c0) w := by
  obtain ⟨i0, hi, hz0, hz1, hz2⟩ := info_parts info_box14
  cases a <;> cases s <;> simp [Builtin.append_, run_underlying Tryz.underlying22, sizeOf, typeInfo, hi, hz1, Builtin.lenOf, Builtin.firstCells, loadCells, loadCellsFrom, storeCells]
theorem wpList_runc {w : World} {v u v' : Value} {w' : World} {ops : Array Oper} {rest : List Oper} {o : Oper} {a : Act} {Q : Exit → Act → World → Prop} (hgd : o.guard = none) (s x : Operand)
    (ho : o.op = .call { callee := .builtin .append, args := #[s, x], argTypes := #[22, 22] }) (hv : a.eval s = v) (hx : a.eval x = u) (hrun : ∀ ty, (Builtin.append_ #[22, 22] ty #[v, u]).run Tryz.prog w = .ok v' w')
    (hK : wpList Tryz.prog ops Q rest (a.put o.dst v') w') : wpList Tryz.prog ops Q (o :: rest) a w := by
  refine wpList_plain hgd fun K hK' => ?_
  unfold Oper.wp
  simp [execOp, ho, resolve, invoke, builtin, hv, hx, hrun, Result.andThen]
  exact hK' _ _ hK
set_option maxRecDepth 100000 in
set_option maxHeartbeats 8000000 in
theorem lent14_s (sa : Option Addr) (n cap : Nat) (B : Nat → Bo) (w : World) (hA : AnyB w sa n B) (hn : n ≤ 200) :
    Calls Tryz.prog 8 #[.slice sa n cap] w fun e w' => ∃ g c, e = .returned (.slice (some ⟨g, 0, none⟩) n c) ∧ w.heap.size ≤ g ∧ n + 2 ≤ c ∧ c ≤ maxLen ∧ LenM w' g n B ∧ Bel w w' := by
  have B0 := bl_alloc (bl_refl w) #[] 37
  have own0 := own_empty w.heap.size w 37 (Nat.le_refl _)
  have nz : (0 : Int) ≤ (n : Int) := by omega
  rcases Nat.eq_zero_or_pos n with h0 | h0
  · have hru : ∀ ty, (Builtin.append_ #[22, 22] ty #[.slice (some ⟨w.heap.size, 0, none⟩) 0 0, .slice sa n cap]).run Tryz.prog (w.alloc (.cells #[] 37)) = .ok (.slice (some ⟨w.heap.size, 0, none⟩) n 0) (w.alloc (.cells #[] 37)) := fun ty => by
      rw [h0]; exact run_app0c (w.alloc (.cells #[] 37)) ty cap sa (some ⟨w.heap.size, 0, none⟩) 0
    have own1 : OwnR 4 w.heap.size ((w.alloc (.cells #[] 37)).alloc (.cells #[.float .f64 4635118810238550016, .float .f64 0, .float .f64 0, .float .f64 0, .float .f64 4635189178982727680, .float .f64 0, .float .f64 0, .float .f64 0] 37)) (.slice (some ⟨w.heap.size, 0, none⟩) n 0) n (bRow B n) := by
      rw [h0, show bRow B 0 = [] by simp [bRow]]
      exact own0.bel (bl_alloc (bl_refl (w.alloc (.cells #[] 37))) #[.float .f64 4635118810238550016, .float .f64 0, .float .f64 0, .float .f64 0, .float .f64 4635189178982727680, .float .f64 0, .float .f64 0, .float .f64 0] 37)
    clear h0 hA own0
    go_enter Tryz.func8, Tryz.ntmps8
    go_upto_region 2 with (first | (at_builtin; refine wpList_runc rfl _ _ rfl rfl rfl hru ?_))
    obtain ⟨W1, hW1⟩ : ∃ x, x = w.alloc (.cells #[] 37) := ⟨_, rfl⟩
    rw [← hW1] at own1 B0
    rw [← hW1]
    have s1 := B0.size
    clear hW1 hru
    go_wp2_with (first | (at_builtin; refine wpList_appR (P := Tryz.prog) (sz := 4) (by_ := 32) (R := bRow B n) (N := [.float .f64 4635118810238550016, .float .f64 0, .float .f64 0, .float .f64 0, .float .f64 4635189178982727680, .float .f64 0, .float .f64 0, .float .f64 0]) 22 37 rfl _ _ rfl Tryz.underlying22 info_box14 rfl rfl _ 0 2 2 rfl own1 rfl (mk_rw W1 [.float .f64 4635118810238550016, .float .f64 0, .float .f64 0, .float .f64 0, .float .f64 4635189178982727680, .float .f64 0, .float .f64 0, .float .f64 0] 37) marks_one (by decide) (by simp only [World.size_alloc]; omega) (by unfold maxLen; omega) (by omega) ?_; intro v2 w2 hO2 hv2 hbX; obtain ⟨g, c, rfl⟩ := hv2; have B2 := hbX w (bl_alloc B0 _ _) (Nat.le_refl _); obtain ⟨q1, q2, q3, q4⟩ := own_lenM (n := n) (B := B) hO2; have hcz : (n : Int) ≤ (c : Int) := (by omega)))
    go_ret
    exact ⟨g, c, rfl, q1, q2, q3, q4, B2⟩
  · obtain ⟨b, off, hsa, hB, hb0⟩ : ∃ b off, sa = some ⟨b, off, none⟩ ∧ Bs w b off n B ∧ b < w.heap.size := by
      rcases hA with h1 | h1
      · omega
      · exact h1
    clear hA
    subst hsa
    have hrw := bs_rw (hB.bel B0)
    go_enter Tryz.func8, Tryz.ntmps8
    go_wp2_with (first | (have zn := m1; clear zn; at_builtin; refine wpList_appR (P := Tryz.prog) (sz := 4) (by_ := 32) (R := bRow B n) (N := [.float .f64 4635118810238550016, .float .f64 0, .float .f64 0, .float .f64 0, .float .f64 4635189178982727680, .float .f64 0, .float .f64 0, .float .f64 0]) 22 37 rfl _ _ rfl Tryz.underlying22 info_box14 rfl rfl _ 0 2 2 rfl (hO1.bel (bl_alloc (bl_refl w1) #[.float .f64 4635118810238550016, .float .f64 0, .float .f64 0, .float .f64 0, .float .f64 4635189178982727680, .float .f64 0, .float .f64 0, .float .f64 0] 37)) rfl (mk_rw w1 [.float .f64 4635118810238550016, .float .f64 0, .float .f64 0, .float .f64 0, .float .f64 4635189178982727680, .float .f64 0, .float .f64 0, .float .f64 0] 37) marks_one (by decide) (by simp only [World.size_alloc]; omega) (by unfold maxLen; omega) (by omega) ?_; intro v2 w2 hO2 hv2 hbX2; obtain ⟨g, c, rfl⟩ := hv2; have B2 := hbX2 w (bl_alloc B1 _ _) (Nat.le_refl _); obtain ⟨q1, q2, q3, q4⟩ := own_lenM (n := n) (B := B) hO2; have hcz : (n : Int) ≤ (c : Int) := (by omega)) | (at_builtin; refine wpList_appR (P := Tryz.prog) (sz := 4) (by_ := 32) (R := []) (N := bRow B n) 22 37 rfl _ _ rfl Tryz.underlying22 info_box14 rfl rfl b off n cap rfl own0 (bRow_length B n) hrw (bRow_one B n) (by omega) (by simp only [World.size_alloc]; omega) (by unfold maxLen; omega) (by omega) ?_; intro v1 w1 hO1 hv1 hbX; rw [Nat.zero_add, List.nil_append] at hO1; rw [Nat.zero_add] at hv1; obtain ⟨g1, c1, rfl⟩ := hv1; have B1 := hbX w B0 (Nat.le_refl _); have s1 := B1.size; have m1 := hide True.intro))
    go_ret
    exact ⟨g, c, rfl, q1, q2, q3, q4, B2⟩

end Go.Proofs.YtekhnolpgoejdaaGreat
