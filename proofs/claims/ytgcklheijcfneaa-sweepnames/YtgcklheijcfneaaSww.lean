/-
  What each function of package sweep answers, and what the reference of its chapter answers: one contract a function, for every list of boxes; of the memory that was there nothing has turned.
-/
import Derived.Test.YtgcklheijcfneaaSwv
import Derived.Laws.StructEq
import Derived.Below
import Derived.BigQuiet
import Derived.OwnWalk
import Derived.Laws.AppendOwn
import Derived.Laws.AppendOwnNone
import Derived.WalkKit
import Derived.WalkLawsBesides
import Derived.WalkSpells
import Derived.ProofKit
import Derived.OpenShut
import Derived.Deep.RegionHeld3
import Derived.Deep.LoopGhost
namespace Go.Proofs.Ytgcklheijcfneaa
open Go.ChangeShapes Go.WideShapes Go.ChangeAt Go.RowKit Go.Shelf Go.Lib Go.Sort
set_option linter.unusedVariables false
set_option linter.unusedSimpArgs false


theorem part_int (xs : Array Value) (k : Nat) (a : Int) (w : World) (h : xs[k]? = some (.int .i64 a)) : (part 3 xs k).run Try.prog w = .ok (.int .i64 a) w := by
  unfold part
  simp [go_sem, h]
theorem run_equalIn_arr (d : Nat) (a b c e : Int) (w : World) : (Op.equalIn (d + 2) 39 (.agg #[.int .i64 a, .int .i64 b]) (.agg #[.int .i64 c, .int .i64 e])).run Try.prog w = .ok (a == c && b == e) w := by
  obtain ⟨i0, hi, hz0, hz1, hz2⟩ := info_parts info_int
  have q := fun (x y : Int) => run_equalIn_int (P := Try.prog) w d 3 .i64 .i64 x y Try.underlying3
  unfold Op.equalIn
  have p1 := part_int #[.int .i64 a, .int .i64 b] 0 a w rfl
  have p2 := part_int #[.int .i64 a, .int .i64 b] 1 b w rfl
  have p3 := part_int #[.int .i64 c, .int .i64 e] 0 c w rfl
  have p4 := part_int #[.int .i64 c, .int .i64 e] 1 e w rfl
  cases h1 : (a == c)
  · simp [run_underlying Try.underlying39, sizeOf, typeInfo, hi, hz1, List.range', p1, p2, p3, p4, q, h1]
  · cases h2 : (b == e)
    all_goals simp [run_underlying Try.underlying39, sizeOf, typeInfo, hi, hz1, List.range', p1, p2, p3, p4, q, h1, h2]
theorem eqg_pair : Try.prog.eqGuardType Try.prog.depth 39 = false := by kernel_rfl
set_option maxRecDepth 100000 in
set_option maxHeartbeats 4000000 in
theorem sameP_s (L : List (Nat × Nat)) (va vb : Value) (w : World) (ha : PRow w va L) (hb : PRow w vb L) (hl : L.length < 4611686018427387904) :
    Calls Try.prog 37 #[va, vb] w fun e w' => e = .returned (.bool true) ∧ Bel w w' := by
  obtain ⟨sa, ca, rfl, hA⟩ := ha
  obtain ⟨sb, cb, rfl, hB⟩ := hb
  obtain ⟨n, hn⟩ : ∃ n, L.length = n := ⟨_, rfl⟩
  have HN : Hid (L.length = n) := hn
  rw [hn] at hl ⊢
  clear hn
  have qA := fun (a b c e : Int) (w : World) => run_equalIn_arr 9998 a b c e w
  have qG := eqg_pair
  go_enter Try.func37, Try.ntmps37
  go_wp2
  go_loopg [5] n (fun kx s5 wr => ∃ k : Nat, s5 = .int .i64 k ∧ k ≤ n ∧ n - k ≤ kx ∧ Bel w wr)
  case atStart => exact ⟨0, rfl, by omega, by omega, bl_refl _⟩
  case round =>
    obtain ⟨k, rfl, hk, hkx, hW⟩ := hrel
    by_cases hlt : k < n
    · have hltz : (k : Int) < (n : Int) := by omega
      have hwk : IntKind.wrap .i64 ((k : Int) + 1) = (k : Int) + 1 := by rw [IntKind.wrap_i64]; omega
      have hne : L ≠ [] := fun e => by have := HN.out; rw [e] at this; simp at this; omega
      obtain ⟨g, o, hsa, hIa⟩ : ∃ g o, sa = some ⟨g, o, none⟩ ∧ Ps w g o L := by
        rcases hA with h | h
        · exact absurd h hne
        · exact h
      obtain ⟨g', o', hsb, hIb⟩ : ∃ g o, sb = some ⟨g, o, none⟩ ∧ Ps w g o L := by
        rcases hB with h | h
        · exact absurd h hne
        · exact h
      clear hA hB hne
      subst hsa hsb
      obtain ⟨r, hr⟩ : ∃ r, L[k]? = some r := ⟨_, List.getElem?_eq_getElem (by rw [HN.out]; exact hlt)⟩
      obtain ⟨x0, x1⟩ := (hIa.bel hW) k r hr
      obtain ⟨x2, x3⟩ := (hIb.bel hW) k r hr
      haveI := belBy_some wr
      have y0 := belBy_cell x0
      have y1 := belBy_cell x1
      have y2 := belBy_cell x2
      have y3 := belBy_cell x3
      go_wp2
      refine wp_region_quiet_bel (by kernel_rfl) (by kernel_rfl) ?_
      repeat (go_big_quiet_step (fail))
      refine wpQuiet_nil ?_
      rintro _ ⟨nq, rfl⟩
      go_wp2
      have hb2 := nq.h
      go_roundg (n - (k + 1))
      case measure => omega
      case rel => exact ⟨k + 1, by go_num, by omega, Nat.le_refl _, bl_trans hW hb2⟩
    · have hltz : ¬ (k : Int) < (n : Int) := by omega
      go_wp2
      go_ret
      exact ⟨rfl, hW⟩

end Go.Proofs.Ytgcklheijcfneaa
