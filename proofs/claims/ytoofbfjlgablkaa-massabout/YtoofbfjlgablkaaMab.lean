/-
  MassAbout: what the law calls, and its walk.
-/
import Derived.Test.YtoofbfjlgablkaaMaa
import Derived.Below
import Derived.OwnWalk
import Derived.Laws.AppendOwn
import Derived.Laws.StructEq
import Derived.WalkKit
import Derived.WalkLawsBesides
import Derived.WalkSpells
import Derived.ProofKit
import Derived.OpenShut
import Derived.Deep.RegionHeld3
namespace Go.Proofs.Ytoofbfjlgablkaa
open Go.ChangeShapes Go.WideShapes Go.ChangeAt Go.RowKit
set_option linter.unusedVariables false
set_option linter.unusedSimpArgs false

theorem allM_rev {ms js xs ys : Nat → Nat} {n : Nat} (h : allM ms js xs ys n) : allM (fun i => ms (n - 1 - i)) (fun i => js (n - 1 - i)) (fun i => xs (n - 1 - i)) (fun i => ys (n - 1 - i)) n := fun q hq => h (n - 1 - q) (by omega)
theorem allM_rev2 {ms js xs ys : Nat → Nat} {n : Nat} (h : allM (fun i => ms (n - 1 - i)) (fun i => js (n - 1 - i)) (fun i => xs (n - 1 - i)) (fun i => ys (n - 1 - i)) n) : allM ms js xs ys n := fun q hq => by
  have := h (n - 1 - q) (by omega)
  simp only [show n - 1 - (n - 1 - q) = q by omega] at this
  exact this
theorem joinA_bad {ms js xs ys : Nat → Nat} {n m j x y : Nat} {f : Int} (hn : 1 ≤ n) (h64 : n ≤ 64) (hb : ¬ allM ms js xs ys n) (h : JoinA ms js xs ys n AboutR m j x y f) : f = 80 := by
  rcases h with ⟨h1, _⟩ | ⟨_, _, _, _, _, _, h6⟩ | ⟨h1, _⟩ | ⟨_, h1, _⟩ | ⟨_, _, h1, _⟩
  · omega
  · exact h6
  · omega
  · exact absurd h1 hb
  · exact absurd h1 hb
theorem told_k {m j x y m' j' x' y' : Nat} {k : Int} (h : Told m j x y m' j' x' y' k) : k = 0 ∨ k = 80 := by
  rcases h with ⟨_, _, _, _, _, h⟩ | ⟨_, _, _, _, _, h⟩
  · exact .inl h
  · exact .inr h
theorem joinA_f {ms js xs ys : Nat → Nat} {n m j x y : Nat} {f : Int} (h64 : n ≤ 64) (h : JoinA ms js xs ys n AboutR m j x y f) : f = 0 ∨ f = 80 := by
  rcases h with ⟨h1, _⟩ | ⟨_, _, _, _, _, _, h6⟩ | ⟨_, _, _, _, _, h6⟩ | ⟨_, _, _, _, _, _, h6⟩ | ⟨_, _, _, M, _, h⟩
  · omega
  · exact .inr h6
  · exact .inl h6
  · exact .inl h6
  · rcases h with ⟨_, _, _, _, _, h6⟩ | ⟨_, _, _, _, _, _, _, _, _, _, _, h8⟩
    · exact .inl h6
    · exact told_k h8
theorem joinA_two {ms js xs ys : Nat → Nat} {n m j x y : Nat} (hn : 2 ≤ n) (h64 : n ≤ 64) (h : JoinA ms js xs ys n AboutR m j x y 0) : allM ms js xs ys n ∧ JoinM ms js xs ys n AboutR m j x y 0 := by
  rcases h with ⟨h1, _⟩ | ⟨_, _, _, _, _, _, h6⟩ | ⟨h1, _⟩ | ⟨h1, _⟩ | ⟨_, _, h1, h2⟩
  · omega
  · cases h6
  · omega
  · omega
  · exact ⟨h1, h2⟩
theorem joinA_one {ms js xs ys : Nat → Nat} {m j x y : Nat} (h : JoinA ms js xs ys 1 AboutR m j x y 0) : m = ms 0 ∧ j = js 0 ∧ x = xs 0 ∧ y = ys 0 ∧ mB (ms 0) (js 0) (xs 0) (ys 0) = true := by
  rcases h with ⟨h1, _⟩ | ⟨_, _, _, _, _, _, h6⟩ | ⟨h1, _⟩ | ⟨_, h2, h3, h4, h5, h6, _⟩ | ⟨h1, _⟩
  · omega
  · cases h6
  · omega
  · exact ⟨h3, h4, h5, h6, h2 0 (by decide)⟩
  · omega
theorem joinA_ok {ms js xs ys : Nat → Nat} {n m j x y : Nat} (h64 : n ≤ 64) (o : ∀ q, q < n → okK .f64 (xs q) ∧ okK .f64 (ys q)) (h : JoinA ms js xs ys n AboutR m j x y 0) : mB m j x y = true ∧ okK .f64 x ∧ okK .f64 y := by
  have z0 : mB 0 0 0 0 = true := by decide +kernel
  have k0 : okK .f64 0 := by unfold okK; decide
  rcases h with ⟨h1, _⟩ | ⟨_, _, _, _, _, _, h6⟩ | ⟨_, rfl, rfl, rfl, rfl, _⟩ | ⟨rfl, h2, rfl, rfl, rfl, rfl, _⟩ | ⟨_, _, _, M, _, h⟩
  · omega
  · cases h6
  · exact ⟨z0, k0, k0⟩
  · exact ⟨h2 0 (by decide), o 0 (by decide)⟩
  · rcases h with ⟨_, rfl, rfl, rfl, rfl, _⟩ | ⟨_, sx, sy, px, py, I, _, _, h3, h4, _, h8⟩
    · exact ⟨z0, k0, k0⟩
    · rcases h8 with ⟨b, rfl, rfl, rfl, rfl, _⟩ | ⟨_, _, _, _, _, h9⟩
      · exact ⟨b, h3.1, h4.1⟩
      · cases h9
theorem aba_self {m j x y r : Nat} {k : Int} (hm : mB m j x y = true) (ox : okK .f64 x) (oy : okK .f64 y) (h : AbA m j x y x y r k) : k = 0 ∧ finK .f64 r = true ∧ woK .f64 r = woK .f64 j ∧ eqK .f64 r j = true := by
  obtain ⟨b1, b2, b3, b4⟩ := mB_is hm ox oy
  have hw : (withinK .f64 x 4787326403894837248 && withinK .f64 y 4787326403894837248) = true := by
    unfold mB at hm
    simp only [Bool.and_eq_true] at hm ⊢
    exact hm.2
  rcases h with ⟨h1, _⟩ | ⟨_, h1, _⟩ | ⟨_, _, h3, h4⟩
  · rw [hm] at h1; cases h1
  · rw [hw] at h1; cases h1
  · obtain ⟨c1, c2⟩ := about_self b1 b2 ox oy b3.2.1 b4.2.1 h3
    exact ⟨h4, c1, c2, about_eq b1 b2 ox oy b3.2.1 b4.2.1 h3⟩
theorem aba_more {m j x y px py r a : Nat} {k : Int} (hm : mB m j x y = true) (ox : okK .f64 x) (oy : okK .f64 y) (op : okK .f64 px) (oq : okK .f64 py) (ha : woK .f64 a = woK .f64 j) (h : AbA m j x y px py r k) :
    ((withinK .f64 px 4787326403894837248 && withinK .f64 py 4787326403894837248) = false ∧ k = 5) ∨ ((withinK .f64 px 4787326403894837248 && withinK .f64 py 4787326403894837248) = true ∧ k = 0 ∧ ltK .f64 r a = false) := by
  obtain ⟨b1, b2, b3, b4⟩ := mB_is hm ox oy
  rcases h with ⟨h1, _⟩ | ⟨_, h1, _, h2⟩ | ⟨_, hw, h3, h4⟩
  · rw [hm] at h1; cases h1
  · exact .inl ⟨h1, h2⟩
  · refine .inr ⟨hw, h4, ?_⟩
    rw [Bool.and_eq_true] at hw
    exact about_more b1 b2 b3 b4 (bd_within op hw.1) (bd_within oq hw.2) h3 ha
theorem near_yes {a b c d q : Nat} (h : nearW a b c) (h1 : resK .sub .f64 a b d) (h2 : resK .mul .f64 4427038433705197568 (rgK .f64 c) q) : leK .f64 (rgK .f64 d) q = true := h d q h1 h2
theorem row_new (W : World) (cs : List Value) (t : TypeId) : Rw (W.alloc (.cells cs.toArray t)) W.heap.size 0 cs := fun j u hj => by
  rw [Nat.zero_add, World.cell?_alloc_new]
  show cs.toArray[j]? = some u
  rw [List.getElem?_toArray]
  exact hj
theorem ones (l : List Value) (h : l.all (·.oneCell') = true) : ∀ u ∈ l, u.oneCell' = true := List.all_eq_true.1 h
theorem wr_one (n : Int) (h : 0 ≤ n ∧ n ≤ 64) : wrap64 (n - 1) = n - 1 := by unfold wrap64; omega
theorem own_row {base n : Nat} {w : World} {v : Value} {ms js xs ys : Nat → Nat} (h : OwnR 4 base w v n (mRow ms js xs ys n)) (hn : 1 ≤ n) : ∃ g c, v = .slice (some ⟨g, 0, none⟩) n c ∧ n ≤ c ∧ Ml w g 0 n ms js xs ys := by
  rcases h.2 with ⟨_, h0⟩ | ⟨g, c, e, h1, h2, h3, h4, _⟩
  · omega
  · exact ⟨g, c, e, h2, ml_of (T := []) (by rw [List.append_nil]; exact h4)⟩
end Go.Proofs.Ytoofbfjlgablkaa
