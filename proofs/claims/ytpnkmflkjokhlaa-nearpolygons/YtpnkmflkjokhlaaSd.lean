/-
  What each function of package poly answers, and what the reference of its chapter answers: one contract a function, for every float: the answer stands in the relation of its formula to what was given; of the memory that was there nothing has turned.
-/
import Derived.Test.YtpnkmflkjokhlaaVec
import Derived.Test.YtpnkmflkjokhlaaSc
import Derived.Below
import Derived.WalkKit
import Derived.WalkLawsBesides
import Derived.WalkSpells
import Derived.ProofKit
import Derived.OpenShut
import Derived.Deep.RegionHeld3
namespace Go.Proofs.Ytpnkmflkjokhlaa
open Go.ChangeShapes Go.WideShapes Go.ChangeAt Go.RowKit
set_option linter.unusedVariables false
set_option linter.unusedSimpArgs false


theorem new4 (W : World) (t : TypeId) (x y z u : Value) : (W.alloc (.cells #[x, y, z, u] t)).cell? ⟨W.heap.size, 0, none⟩ = some x ∧ (W.alloc (.cells #[x, y, z, u] t)).cell? ⟨W.heap.size, 1, none⟩ = some y ∧ (W.alloc (.cells #[x, y, z, u] t)).cell? ⟨W.heap.size, 2, none⟩ = some z ∧ (W.alloc (.cells #[x, y, z, u] t)).cell? ⟨W.heap.size, 3, none⟩ = some u :=
  ⟨by rw [World.cell?_alloc_new]; rfl, by rw [World.cell?_alloc_new]; rfl, by rw [World.cell?_alloc_new]; rfl, by rw [World.cell?_alloc_new]; rfl⟩
theorem four_off {W Z : World} {n b o : Nat} {p q r s v : Value} (hne : n ≠ b) (hZ : Z = (((W.setCell ⟨n, 0, none⟩ p).setCell ⟨n, 1, none⟩ q).setCell ⟨n, 2, none⟩ r).setCell ⟨n, 3, none⟩ s) (h : W.cell? ⟨b, o, none⟩ = some v) : Z.cell? ⟨b, o, none⟩ = some v := by
  subst hZ
  exact up_set2 hne (up_set2 hne (up_set2 hne (up_set2 hne h)))
def boxA (k : Int) (r : Nat) (xs ys : Nat → Nat) (n : Nat) : Value := if shE k r xs ys n = 0 then .agg #[.float .f64 (bxL k r xs n), .float .f64 (bxL k r ys n), .float .f64 (bxH k r xs n), .float .f64 (bxH k r ys n)] else .agg #[.float .f64 0, .float .f64 0, .float .f64 0, .float .f64 0]
theorem sh_gd {k : Int} {r n : Nat} {xs ys : Nat → Nat} (o : Oks xs ys n) (hr : okK .f64 r) (h : shE k r xs ys n = 0) : Gd xs ys n ∧ 1 ≤ n ∧ n ≤ 8 ∧ Bd 40 r := by
  rcases sh_some o hr h with ⟨rfl, rfl, g, hrb, _⟩ | ⟨rfl, rfl, g, hrb, _, hcp⟩ | ⟨rfl, h3, h8, hrz, hch, g⟩
  · exact ⟨g, by decide, by decide, hrb⟩
  · exact ⟨g, by decide, by decide, hrb⟩
  · exact ⟨g, by omega, h8, eq_zero_bd hr hrz 40⟩

end Go.Proofs.Ytpnkmflkjokhlaa
