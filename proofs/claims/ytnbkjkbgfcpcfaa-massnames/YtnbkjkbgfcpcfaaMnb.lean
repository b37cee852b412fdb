/-
  What each function of package poly answers, and what the reference of its chapter answers: one contract a function, for every float: the answer stands in the relation of its formula to what was given; of the memory that was there nothing has turned.
-/
import Derived.Test.YtnbkjkbgfcpcfaaVec
import Derived.Test.YtnbkjkbgfcpcfaaMna
import Derived.Below
import Derived.Laws.MakeOwn
import Derived.Laws.StructEq
import Derived.Deep.LoopGhost
import Derived.BigQuiet
import Derived.OwnWalk
import Derived.Laws.AppendOwn
import Derived.WalkKit
import Derived.WalkLawsBesides
import Derived.WalkSpells
import Derived.ProofKit
import Derived.OpenShut
import Derived.Deep.RegionHeld3
namespace Go.Proofs.Ytnbkjkbgfcpcfaa
open Go.ChangeShapes Go.WideShapes Go.ChangeAt Go.RowKit
set_option linter.unusedVariables false
set_option linter.unusedSimpArgs false


theorem mk_rw (W : World) (cs : List Value) (t : TypeId) : Rw (W.alloc (.cells cs.toArray t)) W.heap.size 0 cs := by
  intro j u hj
  rw [Nat.zero_add, World.cell?_alloc_new, List.getElem?_toArray]
  exact hj
theorem mRow_snoc (ms js xs ys : Nat → Nat) (n : Nat) : mRow ms js xs ys (n + 1) = mRow ms js xs ys n ++ [.float .f64 (ms n), .float .f64 (js n), .float .f64 (xs n), .float .f64 (ys n)] := by
  have e : List.range ((n + 1) * 4) = List.range (n * 4) ++ [n * 4, n * 4 + 1, n * 4 + 2, n * 4 + 3] := by
    rw [show (n + 1) * 4 = n * 4 + 1 + 1 + 1 + 1 by omega, List.range_succ, List.range_succ, List.range_succ, List.range_succ]
    simp
  unfold mRow
  rw [e, List.map_append]
  congr 1
  simp only [List.map_cons, List.map_nil]
  rw [show n * 4 / 4 = n by omega, show (n * 4 + 1) / 4 = n by omega, show (n * 4 + 2) / 4 = n by omega, show (n * 4 + 3) / 4 = n by omega, show n * 4 % 4 = 0 by omega, show (n * 4 + 1) % 4 = 1 by omega, show (n * 4 + 2) % 4 = 2 by omega, show (n * 4 + 3) % 4 = 3 by omega]
  rfl
theorem own_ml {base n : Nat} {w : World} {v : Value} {ms js xs ys : Nat → Nat} (h : OwnR 4 base w v n (mRow ms js xs ys n)) (h0 : 0 < n) : ∃ g cap, v = .slice (some ⟨g, 0, none⟩) n cap ∧ n ≤ cap ∧ Ml w g 0 n ms js xs ys := by
  rcases h.2 with ⟨_, e⟩ | ⟨g, cap, e, _, h2, _, h4, _⟩
  · omega
  · exact ⟨g, cap, e, h2, ml_of (T := []) (by rw [List.append_nil]; exact h4)⟩
/-- a row of parts, each a circle of one, its point at g -/
def Pl (w : World) (b n g : Nat) : Prop := ∀ i, i < n → w.cell? ⟨b, i * 9, none⟩ = some (.int .u8 1) ∧ w.cell? ⟨b, i * 9 + 1, none⟩ = some (.float .f64 4607182418800017408) ∧ w.cell? ⟨b, i * 9 + 2, none⟩ = some (.slice (some ⟨g, 0, none⟩) 1 1) ∧ w.cell? ⟨b, i * 9 + 3, none⟩ = some (.float .f64 4607182418800017408) ∧ w.cell? ⟨b, i * 9 + 4, none⟩ = some (.float .f64 0) ∧ w.cell? ⟨b, i * 9 + 5, none⟩ = some (.float .f64 0) ∧ w.cell? ⟨b, i * 9 + 6, none⟩ = some (.bool false) ∧ w.cell? ⟨b, i * 9 + 7, none⟩ = some (.int .u16 0) ∧ w.cell? ⟨b, i * 9 + 8, none⟩ = some (.int .u16 0)
theorem Pl.bel {w w' : World} {b n g : Nat} (h : Pl w b n g) (e : Bel w w') : Pl w' b n g := fun i hi => ⟨keep e (h i hi).1, keep e (h i hi).2.1, keep e (h i hi).2.2.1, keep e (h i hi).2.2.2.1, keep e (h i hi).2.2.2.2.1, keep e (h i hi).2.2.2.2.2.1, keep e (h i hi).2.2.2.2.2.2.1, keep e (h i hi).2.2.2.2.2.2.2.1, keep e (h i hi).2.2.2.2.2.2.2.2⟩
set_option maxRecDepth 100000 in
set_option maxHeartbeats 8000000 in
theorem parts_n (b n cap g : Nat) (w : World) (h : Pl w b n g) (hA : AnyS w (.slice (some ⟨g, 0, none⟩) 1 1) 1 nX0 nX0) (h2 : 2 ≤ n) (h8 : n ≤ 8) :
    Calls Try.prog 26 #[.slice (some ⟨b, 0, none⟩) n cap] w fun e w' => ∃ m j x y f, JoinA (fun _ => 4614256656552045848) (fun _ => 4609753056924675352) (fun _ => 0) (fun _ => 0) n AboutR m j x y f ∧ e = .returned (.tuple #[.agg #[.float .f64 m, .float .f64 j, .float .f64 x, .float .f64 y], .int .i64 f]) ∧ Bel w w' := by
  have hnz : (n : Int) ≤ 8 := by omega
  have hng : ¬ (8 : Int) < (n : Int) := by omega
  have B0 := bl_alloc (bl_refl w) #[.float .f64 0, .float .f64 0, .float .f64 0, .float .f64 0] 51
  have hP0 := h.bel B0
  have hA0 := hA.bel B0
  have one : ∀ u ∈ ([.float .f64 4614256656552045848, .float .f64 4609753056924675352, .float .f64 0, .float .f64 0] : List Value), u.oneCell' = true := by
    intro u hu
    simp only [List.mem_cons, List.not_mem_nil, or_false] at hu
    rcases hu with rfl | rfl | rfl | rfl <;> rfl
  have z0 : (w.alloc (.cells #[.float .f64 0, .float .f64 0, .float .f64 0, .float .f64 0] 51)).cell? ⟨w.heap.size, 0, none⟩ = some (.float .f64 0) := by rw [World.cell?_alloc_new]; rfl
  have z1 : (w.alloc (.cells #[.float .f64 0, .float .f64 0, .float .f64 0, .float .f64 0] 51)).cell? ⟨w.heap.size, 1, none⟩ = some (.float .f64 0) := by rw [World.cell?_alloc_new]; rfl
  have z2 : (w.alloc (.cells #[.float .f64 0, .float .f64 0, .float .f64 0, .float .f64 0] 51)).cell? ⟨w.heap.size, 2, none⟩ = some (.float .f64 0) := by rw [World.cell?_alloc_new]; rfl
  have z3 : (w.alloc (.cells #[.float .f64 0, .float .f64 0, .float .f64 0, .float .f64 0] 51)).cell? ⟨w.heap.size, 3, none⟩ = some (.float .f64 0) := by rw [World.cell?_alloc_new]; rfl
  go_enter Try.func26, Try.ntmps26
  go_wp2
  go_loopg [4, 15] n (fun kx s4 s15 wr => ∃ k : Nat, s15 = .int .i64 k ∧ k ≤ n ∧ n - k ≤ kx ∧ OwnR 4 (w.alloc (.cells #[.float .f64 0, .float .f64 0, .float .f64 0, .float .f64 0] 51)).heap.size wr s4 k (mRow (fun _ => 4614256656552045848) (fun _ => 4609753056924675352) (fun _ => 0) (fun _ => 0) k) ∧ Bel (w.alloc (.cells #[.float .f64 0, .float .f64 0, .float .f64 0, .float .f64 0] 51)) wr)
  case atStart => exact ⟨0, rfl, by omega, by omega, OwnR.nil _ _ _, bl_refl _⟩
  case round =>
    obtain ⟨k, rfl, hkn, hkx, hO, hW⟩ := hrel
    by_cases hlt : k < n
    · have hkz : (k : Int) < (n : Int) := by omega
      obtain ⟨x0, x1, x2, x3, x4, x5, x6, x7, x8⟩ := (hP0.bel hW) k hlt
      have S6 : (wr.alloc (.cells #[.int .u8 1, .float .f64 4607182418800017408, .slice (some ⟨g, 0, none⟩) 1 1, .float .f64 4607182418800017408, .float .f64 0, .float .f64 0, .bool false, .int .u16 0, .int .u16 0] 57)).cell? ⟨wr.heap.size, 6, none⟩ = some (.bool false) := by rw [World.cell?_alloc_new]; rfl
      have B1 := bl_alloc hW #[.int .u8 1, .float .f64 4607182418800017408, .slice (some ⟨g, 0, none⟩) 1 1, .float .f64 4607182418800017408, .float .f64 0, .float .f64 0, .bool false, .int .u16 0, .int .u16 0] 57
      have hAr := hA0.bel B1
      have hsz := hW.size
      go_wp2_with (first | (go_at_call 27; (with_reducible refine (of_any _ 1 nX0 nX0 1 4607182418800017408 4607182418800017408 _ hAr (by rw [okK64]; decide)).mono ?_); rintro e w1 ⟨m, j, x, y, f, hOf, rfl, hb⟩; obtain ⟨rfl, rfl, rfl, rfl, rfl⟩ := one_ev hOf; clear hOf; replace S6 := up_alloc (o := .cells #[.float .f64 4614256656552045848, .float .f64 4609753056924675352, .float .f64 0, .float .f64 0] 51) (keep hb S6); have B2 := bl_alloc (bl_trans B1 hb) #[.float .f64 4614256656552045848, .float .f64 4609753056924675352, .float .f64 0, .float .f64 0] 51; have hO1 := hO.bel (bl_alloc (bl_alloc (bl_trans (bl_alloc (bl_refl wr) #[.int .u8 1, .float .f64 4607182418800017408, .slice (some ⟨g, 0, none⟩) 1 1, .float .f64 4607182418800017408, .float .f64 0, .float .f64 0, .bool false, .int .u16 0, .int .u16 0] 57) hb) #[.float .f64 4614256656552045848, .float .f64 4609753056924675352, .float .f64 0, .float .f64 0] 51) #[.float .f64 4614256656552045848, .float .f64 4609753056924675352, .float .f64 0, .float .f64 0] 51); have hR1 := mk_rw (w1.alloc (.cells #[.float .f64 4614256656552045848, .float .f64 4609753056924675352, .float .f64 0, .float .f64 0] 51)) [.float .f64 4614256656552045848, .float .f64 4609753056924675352, .float .f64 0, .float .f64 0] 51; rw [World.size_alloc] at hR1) | (at_builtin; refine wpList_appR (P := Try.prog) (sz := 4) (by_ := 32) (R := mRow (fun _ => 4614256656552045848) (fun _ => 4609753056924675352) (fun _ => 0) (fun _ => 0) k) (N := [.float .f64 4614256656552045848, .float .f64 4609753056924675352, .float .f64 0, .float .f64 0]) 49 51 rfl _ _ rfl Try.underlying49 info_mass rfl rfl _ 0 1 1 rfl hO1 rfl hR1 one (by decide) (by have := B2.size; simp only [World.size_alloc] at this ⊢; omega) (by unfold maxLen; omega) (by omega) ?_; intro v2 w2 hO2 hv2 hb2; have B3 := hb2 (w.alloc (.cells #[.float .f64 0, .float .f64 0, .float .f64 0, .float .f64 0] 51)) (bl_alloc B2 _ _) (Nat.le_refl _)))
      go_roundg (n - (k + 1))
      case measure => omega
      case rel => exact ⟨k + 1, by go_num, by omega, by omega, by rw [mRow_snoc]; exact hO2, B3⟩
    · have hk : k = n := by omega
      subst hk
      obtain ⟨g4, c4, rfl, hc4, hM4⟩ := own_ml hO (by omega)
      go_wp2_with (first | (go_at_call 24; (with_reducible refine (join_some _ _ _ _ _ _ _ _ _ hM4 (by omega) hc4 (by omega)).mono ?_); rintro e w3 ⟨m, j, x, y, f, hJ, rfl, hb3⟩; have B3 := bl_trans hW hb3; have R0 := keep B3 z0; have R1 := keep B3 z1; have R2 := keep B3 z2; have R3 := keep B3 z3; have zf : ∀ o, w3.frozen? ⟨w.heap.size, o, none⟩ = false := fun o => (B3.2 _).trans (fz_alloc (fresh_frozen (Nat.le_refl _)))))
      obtain ⟨F0, F1, F2, F3⟩ := set4_at (p := .float .f64 m) (q := .float .f64 j) (r := .float .f64 x) (s := .float .f64 y) R0 R1 R2 R3
      refine bodyPost_ret (v := .tuple #[.agg #[.float .f64 m, .float .f64 j, .float .f64 x, .float .f64 y], .int .i64 f]) (by simp [F0, F1, F2, F3, results, Try.results26, go_sem] <;> (first | exact ⟨⟨rfl, rfl, rfl, rfl⟩, rfl⟩ | exact ⟨rfl, rfl, rfl, rfl, rfl⟩ | exact ⟨rfl, rfl⟩ | rfl)) rfl ⟨m, j, x, y, f, hJ, rfl, ?_⟩
      exact bl_set (bl_set (bl_set (bl_set (bl_trans B0 B3) (Nat.le_refl _)) (Nat.le_refl _)) (Nat.le_refl _)) (Nat.le_refl _)

end Go.Proofs.Ytnbkjkbgfcpcfaa
