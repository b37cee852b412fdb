/-
  What each function of package poly answers, and what the reference of its chapter answers: one contract a function, for every float: the answer stands in the relation of its formula to what was given; of the memory that was there nothing has turned.
-/
import Derived.Test.YtnbkjkbgfcpcfaaVec
import Derived.Test.YtnbkjkbgfcpcfaaMi
import Derived.Test.YtnbkjkbgfcpcfaaMav
import Derived.Test.YtnbkjkbgfcpcfaaMy
import Derived.Below
import Derived.Laws.MakeOwn
import Derived.Laws.StructEq
import Derived.Deep.LoopGhost
import Derived.BigQuiet
import Derived.OwnWalk
import Derived.Laws.AppendOwn
import Derived.WalkKit
import Derived.WalkLawsBesides
import Derived.WalkSpells
import Derived.ProofKit
import Derived.OpenShut
import Derived.Deep.RegionHeld3
namespace Go.Proofs.Ytnbkjkbgfcpcfaa
open Go.ChangeShapes Go.WideShapes Go.ChangeAt Go.RowKit
set_option linter.unusedVariables false
set_option linter.unusedSimpArgs false


theorem one_ev {m j x y : Nat} {f : Int} (h : OfA 1 4607182418800017408 nX0 nX0 1 4607182418800017408 m j x y f) : m = 4614256656552045848 ∧ j = 4609753056924675352 ∧ x = 0 ∧ y = 0 ∧ f = 0 := by
  unfold OfA at h
  rw [if_pos (by decide +kernel), if_pos (by decide +kernel), if_pos rfl] at h
  obtain ⟨m', j', ⟨a, b, a2, c, h1, h2, h3, h4, h5, h6⟩, hT⟩ := h
  obtain rfl : a = 4607182418800017408 := (res_dv h1 (by decide +kernel)).trans (by decide +kernel)
  obtain rfl : b = 4614256656552045848 := (res_dv h2 (by decide +kernel)).trans (by decide +kernel)
  obtain rfl : m' = 4614256656552045848 := (res_dv h3 (by decide +kernel)).trans (by decide +kernel)
  obtain rfl : a2 = 4607182418800017408 := (res_dv h4 (by decide +kernel)).trans (by decide +kernel)
  obtain rfl : c = 4614256656552045848 := (res_dv h5 (by decide +kernel)).trans (by decide +kernel)
  obtain rfl : j' = 4609753056924675352 := (res_dv h6 (by decide +kernel)).trans (by decide +kernel)
  rcases hT with ⟨_, rfl, rfl, rfl, rfl, rfl⟩ | ⟨h, _⟩
  · exact ⟨rfl, rfl, rfl, rfl, rfl⟩
  · exact absurd h (by decide +kernel)

theorem big_ev {m j x y : Nat} {f : Int} (h : OfA 1 4607182418800017408 nX0 nX0 1 4787326403894837248 m j x y f) : m = 4794400641646865688 ∧ j = 4789897042019495192 ∧ x = 0 ∧ y = 0 ∧ f = 0 := by
  unfold OfA at h
  rw [if_pos (by decide +kernel), if_pos (by decide +kernel), if_pos rfl] at h
  obtain ⟨m', j', ⟨a, b, a2, c, h1, h2, h3, h4, h5, h6⟩, hT⟩ := h
  obtain rfl : a = 4607182418800017408 := (res_dv h1 (by decide +kernel)).trans (by decide +kernel)
  obtain rfl : b = 4614256656552045848 := (res_dv h2 (by decide +kernel)).trans (by decide +kernel)
  obtain rfl : m' = 4794400641646865688 := (res_dv h3 (by decide +kernel)).trans (by decide +kernel)
  obtain rfl : a2 = 4607182418800017408 := (res_dv h4 (by decide +kernel)).trans (by decide +kernel)
  obtain rfl : c = 4794400641646865688 := (res_dv h5 (by decide +kernel)).trans (by decide +kernel)
  obtain rfl : j' = 4789897042019495192 := (res_dv h6 (by decide +kernel)).trans (by decide +kernel)
  rcases hT with ⟨_, rfl, rfl, rfl, rfl, rfl⟩ | ⟨h, _⟩
  · exact ⟨rfl, rfl, rfl, rfl, rfl⟩
  · exact absurd h (by decide +kernel)

theorem more_ev {m j x y : Nat} {f : Int} (h : OfA 1 4607182418800017408 nX0 nX0 1 4787326403894841344 m j x y f) : m = 0 ∧ j = 0 ∧ x = 0 ∧ y = 0 ∧ f = 5 := by
  unfold OfA at h
  rw [if_pos (by decide +kernel), if_neg (by decide +kernel)] at h
  exact ⟨h.1.1, h.1.2.1, h.1.2.2.1, h.1.2.2.2, h.2⟩

theorem sum8m {T : Nat → Nat → Prop} {r : Nat} (hT : ∀ q t, q < 8 → T q t → t = 4614256656552045848) (h : SumR 8 T r) : r = 4627767455434157336 := by
  obtain ⟨ts, h1, f, h2, h3, h4⟩ := h
  have e0 : f 0 = 4614256656552045848 := h2.trans (hT 0 _ (by decide) (h1 0 (by decide)))
  have hs : ∀ i, i < 7 → resK .add .f64 (f i) 4614256656552045848 (f (i + 1)) := fun i hi => by
    have h : resK .add .f64 (f i) (ts (i + 1)) (f (i + 1)) := h4 i hi
    rw [hT (i + 1) _ (by omega) (h1 (i + 1) (by omega))] at h
    exact h
  obtain e1 : f 1 = 4618760256179416344 := by
    have h := hs 0 (by decide)
    rw [e0] at h
    exact (res_dv h (by decide +kernel)).trans (by decide +kernel)
  obtain e2 : f 2 = 4621495296368779730 := by
    have h := hs 1 (by decide)
    rw [e1] at h
    exact (res_dv h (by decide +kernel)).trans (by decide +kernel)
  obtain e3 : f 3 = 4623263855806786840 := by
    have h := hs 2 (by decide)
    rw [e2] at h
    exact (res_dv h (by decide +kernel)).trans (by decide +kernel)
  obtain e4 : f 4 = 4625032415244793950 := by
    have h := hs 3 (by decide)
    rw [e3] at h
    exact (res_dv h (by decide +kernel)).trans (by decide +kernel)
  obtain e5 : f 5 = 4625998895996150226 := by
    have h := hs 4 (by decide)
    rw [e4] at h
    exact (res_dv h (by decide +kernel)).trans (by decide +kernel)
  obtain e6 : f 6 = 4626883175715153781 := by
    have h := hs 5 (by decide)
    rw [e5] at h
    exact (res_dv h (by decide +kernel)).trans (by decide +kernel)
  obtain e7 : f 7 = 4627767455434157336 := by
    have h := hs 6 (by decide)
    rw [e6] at h
    exact (res_dv h (by decide +kernel)).trans (by decide +kernel)
  exact h3.symm.trans e7

theorem sum8i {T : Nat → Nat → Prop} {r : Nat} (hT : ∀ q t, q < 8 → T q t → t = 4609753056924675352) (h : SumR 8 T r) : r = 4623263855806786840 := by
  obtain ⟨ts, h1, f, h2, h3, h4⟩ := h
  have e0 : f 0 = 4609753056924675352 := h2.trans (hT 0 _ (by decide) (h1 0 (by decide)))
  have hs : ∀ i, i < 7 → resK .add .f64 (f i) 4609753056924675352 (f (i + 1)) := fun i hi => by
    have h : resK .add .f64 (f i) (ts (i + 1)) (f (i + 1)) := h4 i hi
    rw [hT (i + 1) _ (by omega) (h1 (i + 1) (by omega))] at h
    exact h
  obtain e1 : f 1 = 4614256656552045848 := by
    have h := hs 0 (by decide)
    rw [e0] at h
    exact (res_dv h (by decide +kernel)).trans (by decide +kernel)
  obtain e2 : f 2 = 4616991696741409234 := by
    have h := hs 1 (by decide)
    rw [e1] at h
    exact (res_dv h (by decide +kernel)).trans (by decide +kernel)
  obtain e3 : f 3 = 4618760256179416344 := by
    have h := hs 2 (by decide)
    rw [e2] at h
    exact (res_dv h (by decide +kernel)).trans (by decide +kernel)
  obtain e4 : f 4 = 4620528815617423454 := by
    have h := hs 3 (by decide)
    rw [e3] at h
    exact (res_dv h (by decide +kernel)).trans (by decide +kernel)
  obtain e5 : f 5 = 4621495296368779730 := by
    have h := hs 4 (by decide)
    rw [e4] at h
    exact (res_dv h (by decide +kernel)).trans (by decide +kernel)
  obtain e6 : f 6 = 4622379576087783285 := by
    have h := hs 5 (by decide)
    rw [e5] at h
    exact (res_dv h (by decide +kernel)).trans (by decide +kernel)
  obtain e7 : f 7 = 4623263855806786840 := by
    have h := hs 6 (by decide)
    rw [e6] at h
    exact (res_dv h (by decide +kernel)).trans (by decide +kernel)
  exact h3.symm.trans e7

theorem sum8z {T : Nat → Nat → Prop} {r : Nat} (hT : ∀ q t, q < 8 → T q t → t = 0) (h : SumR 8 T r) : r = 0 := by
  have := sum_same (c := 0) (by decide) (by decide) (fun q t hq h => (hT q t hq h).trans fI_0.symm) h
  rw [Nat.mul_zero, fI_0] at this
  exact this
theorem join_eight {m j x y : Nat} {e : Int} (h : JoinA (fun _ => 4614256656552045848) (fun _ => 4609753056924675352) (fun _ => 0) (fun _ => 0) 8 AboutR m j x y e) : m = 4627767455434157336 ∧ j = 4623263855806786840 ∧ x = 0 ∧ y = 0 ∧ e = 0 := by
  have may : mB 4614256656552045848 4609753056924675352 0 0 = true := by decide +kernel
  rcases h with ⟨h, _⟩ | ⟨_, h, _⟩ | ⟨h, _⟩ | ⟨h, _⟩ | ⟨_, _, _, M, hM, h⟩
  · omega
  · exact absurd (fun q _ => may) h
  · omega
  · omega
  · have eM := sum8m (fun q t _ h => h) hM
    subst eM
    rcases h with ⟨h, _⟩ | ⟨_, sx, sy, px, py, I, h1, h2, h3, h4, h5, h6⟩
    · exact absurd h (by decide +kernel)
    · have e1 := sum8z (fun q t _ (h : resK .mul .f64 4614256656552045848 0 t) => res_is h (by decide +kernel)) h1
      have e2 := sum8z (fun q t _ (h : resK .mul .f64 4614256656552045848 0 t) => res_is h (by decide +kernel)) h2
      subst e1 e2
      have e3 : px = 0 := res_is h3 (by decide +kernel)
      have e4 : py = 0 := res_is h4 (by decide +kernel)
      subst e3 e4
      have e5 := sum8i (fun q t _ (h : AboutR 4614256656552045848 4609753056924675352 0 0 0 0 t) => by
        obtain ⟨u, v, s, p, ⟨g1, g2⟩, ⟨a, b, g3, g4, g5⟩, g6, g7⟩ := h
        have i1 : u = 0 := res_is g1 (by decide +kernel)
        have i2 : v = 0 := res_is g2 (by decide +kernel)
        subst i1 i2
        have i3 : a = 0 := res_is g3 (by decide +kernel)
        have i4 : b = 0 := res_is g4 (by decide +kernel)
        subst i3 i4
        have i5 : s = 0 := res_is g5 (by decide +kernel)
        subst i5
        have i6 : p = 0 := res_is g6 (by decide +kernel)
        subst i6
        exact res_is g7 (by decide +kernel)) h5
      subst e5
      rcases h6 with ⟨_, rfl, rfl, rfl, rfl, rfl⟩ | ⟨h6, _⟩
      · exact ⟨rfl, rfl, rfl, rfl, rfl⟩
      · exact absurd h6 (by decide +kernel)
theorem make_mass (n : Nat) (hn : n ≤ 1000000) (W : World) : (Instr.makeSlice 49 (.int .i64 n) (.int .i64 n)).run Try.prog W = .ok (.slice (some ⟨W.heap.size, 0, none⟩) n n) (W.alloc (.cells (madeCells #[.float .f64 0, .float .f64 0, .float .f64 0, .float .f64 0] (n * 4)) 51)) := by
  have h := run_make (P := Try.prog) W 49 51 Try.t51 (.agg #[.float .f64 0, .float .f64 0, .float .f64 0, .float .f64 0]) Try.underlying49 (by kernel_rfl) (by kernel_rfl) .i64 .i64 n n (by omega) (by omega) (by show ((32 : Nat) : Int) * n ≤ _; omega) (by omega)
  rw [show Try.t51.size = 4 by kernel_rfl] at h
  exact h
theorem made_mass (W : World) (t : TypeId) (n q : Nat) (hq : q < n * 4) : ((W.alloc (.cells (madeCells #[.float .f64 0, .float .f64 0, .float .f64 0, .float .f64 0] (n * 4)) t)).cell? ⟨W.heap.size, q, none⟩).isSome = true := by
  simp [madeCells, hq]
theorem make_parts (W : World) : (Instr.makeSlice 58 (.int .i64 9) (.int .i64 9)).run Try.prog W = .ok (.slice (some ⟨W.heap.size, 0, none⟩) 9 9) (W.alloc (.cells (madeCells #[.int .u8 0, .float .f64 0, .slice none 0 0, .float .f64 0, .float .f64 0, .float .f64 0, .bool false, .int .u16 0, .int .u16 0] (9 * 9)) 57)) := by
  have h := run_make (P := Try.prog) W 58 57 Try.t57 (.agg #[.int .u8 0, .float .f64 0, .slice none 0 0, .float .f64 0, .float .f64 0, .float .f64 0, .bool false, .int .u16 0, .int .u16 0]) Try.underlying58 (by kernel_rfl) (by kernel_rfl) .i64 .i64 9 9 (by omega) (by omega) (by decide +kernel) (by omega)
  rw [show Try.t57.size = 9 by kernel_rfl] at h
  exact h
theorem made_parts (W : World) (t : TypeId) (q : Nat) (hq : q < 9 * 9) : ((W.alloc (.cells (madeCells #[.int .u8 0, .float .f64 0, .slice none 0 0, .float .f64 0, .float .f64 0, .float .f64 0, .bool false, .int .u16 0, .int .u16 0] (9 * 9)) t)).cell? ⟨W.heap.size, q, none⟩).isSome = true := by
  simp [madeCells, hq]
theorem set_some {W : World} {a c : Addr} {v : Value} (h : (W.cell? c).isSome = true) : ((W.setCell a v).cell? c).isSome = true := by
  obtain ⟨x, hx⟩ := Option.isSome_iff_exists.1 h
  obtain ⟨y, hy⟩ := cell?_setCell_some (p := a) (x := v) hx
  rw [hy]; rfl
theorem set_far {W : World} {p q o i : Nat} {u v : Value} (h : W.cell? ⟨q, i, none⟩ = some v) (hp : p ≠ q ∨ o ≠ i) : (W.setCell ⟨p, o, none⟩ u).cell? ⟨q, i, none⟩ = some v := by
  rw [World.cell?_setCell_other (h := fun e => by cases e; rcases hp with h | h <;> exact h rfl)]; exact h
theorem set_here {W : World} {a : Addr} {v : Value} (h : (W.cell? a).isSome = true) : (W.setCell a v).cell? a = some v := World.cell?_setCell_same' W a v h

end Go.Proofs.Ytnbkjkbgfcpcfaa
