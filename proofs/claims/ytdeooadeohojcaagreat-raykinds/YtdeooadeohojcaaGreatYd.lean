/-
  What each function of package poly answers, and what the reference of its chapter answers: one contract a function, for every float: the answer stands in the relation of its formula to what was given; of the memory that was there nothing has turned.
-/
import Derived.Test.YtdeooadeohojcaaGreatVec
import Derived.Test.YtdeooadeohojcaaGreatYc
import Derived.Test.YtdeooadeohojcaaGreatRyb
import Derived.Below
import Derived.WalkKit
import Derived.WalkLawsBesides
import Derived.WalkSpells
import Derived.ProofKit
import Derived.OpenShut
import Derived.Deep.RegionHeld3
namespace Go.Proofs.YtdeooadeohojcaaGreat
open Go.ChangeShapes Go.WideShapes Go.ChangeAt Go.RowKit
set_option linter.unusedVariables false
set_option linter.unusedSimpArgs false


theorem bxYd0 (w : World) (hx2 hy2 nx2 ny2 ht2 : Nat) (W : World) (hW : W = (w.alloc (.cells #[.float .f64 hx2, .float .f64 hy2, .float .f64 nx2, .float .f64 ny2, .float .f64 ht2] 28))) : W.cell? ⟨w.heap.size, 0, none⟩ = some (.float .f64 hx2) ∧ W.cell? ⟨w.heap.size, 1, none⟩ = some (.float .f64 hy2) ∧ W.cell? ⟨w.heap.size, 2, none⟩ = some (.float .f64 nx2) ∧ W.cell? ⟨w.heap.size, 3, none⟩ = some (.float .f64 ny2) ∧ W.cell? ⟨w.heap.size, 4, none⟩ = some (.float .f64 ht2) ∧ Bel w W := by
  have z0_0 : (w.alloc (.cells #[.float .f64 hx2, .float .f64 hy2, .float .f64 nx2, .float .f64 ny2, .float .f64 ht2] 28)).cell? ⟨w.heap.size, 0, none⟩ = some (.float .f64 hx2) := by rw [World.cell?_alloc_new]; rfl
  have z0_1 : (w.alloc (.cells #[.float .f64 hx2, .float .f64 hy2, .float .f64 nx2, .float .f64 ny2, .float .f64 ht2] 28)).cell? ⟨w.heap.size, 1, none⟩ = some (.float .f64 hy2) := by rw [World.cell?_alloc_new]; rfl
  have z0_2 : (w.alloc (.cells #[.float .f64 hx2, .float .f64 hy2, .float .f64 nx2, .float .f64 ny2, .float .f64 ht2] 28)).cell? ⟨w.heap.size, 2, none⟩ = some (.float .f64 nx2) := by rw [World.cell?_alloc_new]; rfl
  have z0_3 : (w.alloc (.cells #[.float .f64 hx2, .float .f64 hy2, .float .f64 nx2, .float .f64 ny2, .float .f64 ht2] 28)).cell? ⟨w.heap.size, 3, none⟩ = some (.float .f64 ny2) := by rw [World.cell?_alloc_new]; rfl
  have z0_4 : (w.alloc (.cells #[.float .f64 hx2, .float .f64 hy2, .float .f64 nx2, .float .f64 ny2, .float .f64 ht2] 28)).cell? ⟨w.heap.size, 4, none⟩ = some (.float .f64 ht2) := by rw [World.cell?_alloc_new]; rfl
  have B0 : Bel w (w.alloc (.cells #[.float .f64 hx2, .float .f64 hy2, .float .f64 nx2, .float .f64 ny2, .float .f64 ht2] 28)) := bl_alloc (bl_refl w) _ _
  subst hW
  exact ⟨z0_0, z0_1, z0_2, z0_3, z0_4, B0⟩

theorem bxYd1 (w : World) (W : World) (hW : W = (w.alloc (.cells #[.float .f64 0, .float .f64 0, .float .f64 0, .float .f64 0, .float .f64 0] 28))) : W.cell? ⟨w.heap.size, 0, none⟩ = some (.float .f64 0) ∧ W.cell? ⟨w.heap.size, 1, none⟩ = some (.float .f64 0) ∧ W.cell? ⟨w.heap.size, 2, none⟩ = some (.float .f64 0) ∧ W.cell? ⟨w.heap.size, 3, none⟩ = some (.float .f64 0) ∧ W.cell? ⟨w.heap.size, 4, none⟩ = some (.float .f64 0) ∧ Bel w W := by
  have z0_0 : (w.alloc (.cells #[.float .f64 0, .float .f64 0, .float .f64 0, .float .f64 0, .float .f64 0] 28)).cell? ⟨w.heap.size, 0, none⟩ = some (.float .f64 0) := by rw [World.cell?_alloc_new]; rfl
  have z0_1 : (w.alloc (.cells #[.float .f64 0, .float .f64 0, .float .f64 0, .float .f64 0, .float .f64 0] 28)).cell? ⟨w.heap.size, 1, none⟩ = some (.float .f64 0) := by rw [World.cell?_alloc_new]; rfl
  have z0_2 : (w.alloc (.cells #[.float .f64 0, .float .f64 0, .float .f64 0, .float .f64 0, .float .f64 0] 28)).cell? ⟨w.heap.size, 2, none⟩ = some (.float .f64 0) := by rw [World.cell?_alloc_new]; rfl
  have z0_3 : (w.alloc (.cells #[.float .f64 0, .float .f64 0, .float .f64 0, .float .f64 0, .float .f64 0] 28)).cell? ⟨w.heap.size, 3, none⟩ = some (.float .f64 0) := by rw [World.cell?_alloc_new]; rfl
  have z0_4 : (w.alloc (.cells #[.float .f64 0, .float .f64 0, .float .f64 0, .float .f64 0, .float .f64 0] 28)).cell? ⟨w.heap.size, 4, none⟩ = some (.float .f64 0) := by rw [World.cell?_alloc_new]; rfl
  have B0 : Bel w (w.alloc (.cells #[.float .f64 0, .float .f64 0, .float .f64 0, .float .f64 0, .float .f64 0] 28)) := bl_alloc (bl_refl w) _ _
  subst hW
  exact ⟨z0_0, z0_1, z0_2, z0_3, z0_4, B0⟩

theorem later_n (x y : Nat) (w : World) : Calls Tryz.prog 73 #[.float .f64 x, .float .f64 y] w fun e w' => e = .returned (.bool (ltK .f64 y x)) ∧ w' = w := by
  have c1 := cmp_gt .f64
  go_enter Tryz.func73, Tryz.ntmps73
  go_wp2
  go_ret
  exact ⟨rfl, rfl⟩

theorem sooner_n (x y : Nat) (w : World) : Calls Tryz.prog 80 #[.float .f64 x, .float .f64 y] w fun e w' => e = .returned (.bool (ltK .f64 x y)) ∧ w' = w := by
  have c1 := cmp_lt .f64
  go_enter Tryz.func80, Tryz.ntmps80
  go_wp2
  go_ret
  exact ⟨rfl, rfl⟩

theorem keeper_n (g : Nat) (w : World) : Calls Tryz.prog 72 #[.func (.func g) #[] #[]] w fun e w' => e = .returned (.tuple #[.func (.func 97) #[] #[.pointer (some ⟨w.heap.size + 1 + 1, 0, none⟩), .pointer (some ⟨w.heap.size, 0, none⟩), .pointer (some ⟨w.heap.size + 1, 0, none⟩)], .func (.func 98) #[] #[.pointer (some ⟨w.heap.size + 1, 0, none⟩), .pointer (some ⟨w.heap.size + 1 + 1, 0, none⟩)]]) ∧ w' = (((w.alloc (.cells #[.func (.func g) #[] #[]] 69)).alloc (.cells #[.float .f64 0, .float .f64 0, .float .f64 0, .float .f64 0, .float .f64 0] 28)).alloc (.cells #[.bool false] 4)) := by
  go_enter Tryz.func72, Tryz.ntmps72
  go_wp2
  refine bodyPost_ret (v := .tuple #[.func (.func 97) #[] #[.pointer (some ⟨w.heap.size + 1 + 1, 0, none⟩), .pointer (some ⟨w.heap.size, 0, none⟩), .pointer (some ⟨w.heap.size + 1, 0, none⟩)], .func (.func 98) #[] #[.pointer (some ⟨w.heap.size + 1, 0, none⟩), .pointer (some ⟨w.heap.size + 1 + 1, 0, none⟩)]]) (by simp [results, Tryz.results72, go_sem] <;> (first | exact ⟨rfl, rfl⟩ | rfl)) rfl ⟨rfl, rfl⟩

set_option maxRecDepth 100000 in
theorem tellL0 {si bt kp : Nat} {b : Bool} {hx1 hy1 nx1 ny1 ht1 hx2 hy2 nx2 ny2 ht2 : Nat} (w : World) (ci : w.cell? ⟨si, 0, none⟩ = some (.bool b)) (cb : w.cell? ⟨bt, 0, none⟩ = some (.func (.func 73) #[] #[])) (ck0 : w.cell? ⟨kp, 0, none⟩ = some (.float .f64 hx1)) (ck1 : w.cell? ⟨kp, 1, none⟩ = some (.float .f64 hy1)) (ck2 : w.cell? ⟨kp, 2, none⟩ = some (.float .f64 nx1)) (ck3 : w.cell? ⟨kp, 3, none⟩ = some (.float .f64 ny1)) (ck4 : w.cell? ⟨kp, 4, none⟩ = some (.float .f64 ht1)) (n1 : kp ≠ si) (n2 : bt ≠ kp) (n3 : bt ≠ si) (f1 : ∀ o, w.frozen? ⟨kp, o, none⟩ = false) (f2 : ∀ o, w.frozen? ⟨si, o, none⟩ = false) (hb : b = false) : Calls Tryz.prog 97 #[.agg #[.float .f64 hx2, .float .f64 hy2, .float .f64 nx2, .float .f64 ny2, .float .f64 ht2], .pointer (some ⟨si, 0, none⟩), .pointer (some ⟨bt, 0, none⟩), .pointer (some ⟨kp, 0, none⟩)] w fun e w' => e = .returned (.tuple #[]) ∧ w'.cell? ⟨kp, 0, none⟩ = some (.float .f64 hx2) ∧ w'.cell? ⟨kp, 1, none⟩ = some (.float .f64 hy2) ∧ w'.cell? ⟨kp, 2, none⟩ = some (.float .f64 nx2) ∧ w'.cell? ⟨kp, 3, none⟩ = some (.float .f64 ny2) ∧ w'.cell? ⟨kp, 4, none⟩ = some (.float .f64 ht2) ∧ w'.cell? ⟨si, 0, none⟩ = some (.bool true) ∧ w'.cell? ⟨bt, 0, none⟩ = some (.func (.func 73) #[] #[]) ∧ (∀ a, Bel a w → a.heap.size ≤ kp → a.heap.size ≤ si → Bel a w') ∧ ∀ (c p : Nat) (v : Value), c ≠ kp → c ≠ si → w.cell? ⟨c, p, none⟩ = some v → w'.cell? ⟨c, p, none⟩ = some v := by
  subst hb
  have li := World.block_lt_of_cell? _ _ ci
  have lb := World.block_lt_of_cell? _ _ cb
  have lk := World.block_lt_of_cell? _ _ ck0
  simp only at li lb lk
  obtain ⟨z0_0, z0_1, z0_2, z0_3, z0_4, B0⟩ := bxYd0 w hx2 hy2 nx2 ny2 ht2 _ rfl
  have cia := keep B0 ci
  have cba := keep B0 cb
  have ck0a := keep B0 ck0
  have ck1a := keep B0 ck1
  have ck2a := keep B0 ck2
  have ck3a := keep B0 ck3
  have ck4a := keep B0 ck4
  have f1a : ∀ o, (w.alloc (.cells #[.float .f64 hx2, .float .f64 hy2, .float .f64 nx2, .float .f64 ny2, .float .f64 ht2] 28)).frozen? ⟨kp, o, none⟩ = false := fun o => (B0.2 _).trans (f1 o)
  have f2a : ∀ o, (w.alloc (.cells #[.float .f64 hx2, .float .f64 hy2, .float .f64 nx2, .float .f64 ny2, .float .f64 ht2] 28)).frozen? ⟨si, o, none⟩ = false := fun o => (B0.2 _).trans (f2 o)
  have nk : kp ≠ w.heap.size := by omega
  have ni : si ≠ w.heap.size := by omega
  go_enter Tryz.func97, Tryz.ntmps97
  go_wp2_with (first | fail)
  obtain ⟨X, hX, r0, r1, r2, r3, r4, rF, bX⟩ := put5_all (p := .float .f64 hx2) (q := .float .f64 hy2) (r := .float .f64 nx2) (s := .float .f64 ny2) (t := .float .f64 ht2) ck0 ck1 ck2 ck3 ck4
  rw [← hX]
  have ci2 := (rF si 0 (.inl n1.symm)).trans ci
  have cb2 := (rF bt 0 (.inl n2)).trans cb
  refine bodyPost_end (v := .tuple #[]) (by simp [results, Tryz.results97, go_sem] <;> rfl) rfl ⟨rfl, up_alloc ((set_else (.inl n1)).trans r0), up_alloc ((set_else (.inl n1)).trans r1), up_alloc ((set_else (.inl n1)).trans r2), up_alloc ((set_else (.inl n1)).trans r3), up_alloc ((set_else (.inl n1)).trans r4), up_alloc (World.cell?_setCell_same _ _ _ ci2), up_alloc ((set_else (.inl n3)).trans cb2), fun a ha h1 h2 => bl_alloc (bl_set (bX a ha h1) h2) _ _, fun c p v h1 h2 h => up_alloc ((set_else (.inl h2)).trans ((rF c p (.inl h1)).trans h))⟩

set_option maxRecDepth 100000 in
theorem tellL1 {si bt kp : Nat} {b : Bool} {hx1 hy1 nx1 ny1 ht1 hx2 hy2 nx2 ny2 ht2 : Nat} (w : World) (ci : w.cell? ⟨si, 0, none⟩ = some (.bool b)) (cb : w.cell? ⟨bt, 0, none⟩ = some (.func (.func 73) #[] #[])) (ck0 : w.cell? ⟨kp, 0, none⟩ = some (.float .f64 hx1)) (ck1 : w.cell? ⟨kp, 1, none⟩ = some (.float .f64 hy1)) (ck2 : w.cell? ⟨kp, 2, none⟩ = some (.float .f64 nx1)) (ck3 : w.cell? ⟨kp, 3, none⟩ = some (.float .f64 ny1)) (ck4 : w.cell? ⟨kp, 4, none⟩ = some (.float .f64 ht1)) (n1 : kp ≠ si) (n2 : bt ≠ kp) (n3 : bt ≠ si) (f1 : ∀ o, w.frozen? ⟨kp, o, none⟩ = false) (f2 : ∀ o, w.frozen? ⟨si, o, none⟩ = false) (hb : b = true) (ht : ltK .f64 ht1 ht2 = true) : Calls Tryz.prog 97 #[.agg #[.float .f64 hx2, .float .f64 hy2, .float .f64 nx2, .float .f64 ny2, .float .f64 ht2], .pointer (some ⟨si, 0, none⟩), .pointer (some ⟨bt, 0, none⟩), .pointer (some ⟨kp, 0, none⟩)] w fun e w' => e = .returned (.tuple #[]) ∧ w'.cell? ⟨kp, 0, none⟩ = some (.float .f64 hx2) ∧ w'.cell? ⟨kp, 1, none⟩ = some (.float .f64 hy2) ∧ w'.cell? ⟨kp, 2, none⟩ = some (.float .f64 nx2) ∧ w'.cell? ⟨kp, 3, none⟩ = some (.float .f64 ny2) ∧ w'.cell? ⟨kp, 4, none⟩ = some (.float .f64 ht2) ∧ w'.cell? ⟨si, 0, none⟩ = some (.bool true) ∧ w'.cell? ⟨bt, 0, none⟩ = some (.func (.func 73) #[] #[]) ∧ (∀ a, Bel a w → a.heap.size ≤ kp → a.heap.size ≤ si → Bel a w') ∧ ∀ (c p : Nat) (v : Value), c ≠ kp → c ≠ si → w.cell? ⟨c, p, none⟩ = some v → w'.cell? ⟨c, p, none⟩ = some v := by
  subst hb
  have li := World.block_lt_of_cell? _ _ ci
  have lb := World.block_lt_of_cell? _ _ cb
  have lk := World.block_lt_of_cell? _ _ ck0
  simp only at li lb lk
  obtain ⟨z0_0, z0_1, z0_2, z0_3, z0_4, B0⟩ := bxYd0 w hx2 hy2 nx2 ny2 ht2 _ rfl
  have cia := keep B0 ci
  have cba := keep B0 cb
  have ck0a := keep B0 ck0
  have ck1a := keep B0 ck1
  have ck2a := keep B0 ck2
  have ck3a := keep B0 ck3
  have ck4a := keep B0 ck4
  have f1a : ∀ o, (w.alloc (.cells #[.float .f64 hx2, .float .f64 hy2, .float .f64 nx2, .float .f64 ny2, .float .f64 ht2] 28)).frozen? ⟨kp, o, none⟩ = false := fun o => (B0.2 _).trans (f1 o)
  have f2a : ∀ o, (w.alloc (.cells #[.float .f64 hx2, .float .f64 hy2, .float .f64 nx2, .float .f64 ny2, .float .f64 ht2] 28)).frozen? ⟨si, o, none⟩ = false := fun o => (B0.2 _).trans (f2 o)
  have nk : kp ≠ w.heap.size := by omega
  have ni : si ≠ w.heap.size := by omega
  go_enter Tryz.func97, Tryz.ntmps97
  go_wp2_with (first | (go_at_call 73; (with_reducible refine (later_n _ _ _).mono ?_); rintro e w1 ⟨rfl, hW⟩; rw [hW]))
  obtain ⟨X, hX, r0, r1, r2, r3, r4, rF, bX⟩ := put5_all (p := .float .f64 hx2) (q := .float .f64 hy2) (r := .float .f64 nx2) (s := .float .f64 ny2) (t := .float .f64 ht2) ck0 ck1 ck2 ck3 ck4
  rw [← hX]
  have ci2 := (rF si 0 (.inl n1.symm)).trans ci
  have cb2 := (rF bt 0 (.inl n2)).trans cb
  refine bodyPost_end (v := .tuple #[]) (by simp [results, Tryz.results97, go_sem] <;> rfl) rfl ⟨rfl, up_alloc ((set_else (.inl n1)).trans r0), up_alloc ((set_else (.inl n1)).trans r1), up_alloc ((set_else (.inl n1)).trans r2), up_alloc ((set_else (.inl n1)).trans r3), up_alloc ((set_else (.inl n1)).trans r4), up_alloc (World.cell?_setCell_same _ _ _ ci2), up_alloc ((set_else (.inl n3)).trans cb2), fun a ha h1 h2 => bl_alloc (bl_set (bX a ha h1) h2) _ _, fun c p v h1 h2 h => up_alloc ((set_else (.inl h2)).trans ((rF c p (.inl h1)).trans h))⟩

set_option maxRecDepth 100000 in
theorem tellL2 {si bt kp : Nat} {b : Bool} {hx1 hy1 nx1 ny1 ht1 hx2 hy2 nx2 ny2 ht2 : Nat} (w : World) (ci : w.cell? ⟨si, 0, none⟩ = some (.bool b)) (cb : w.cell? ⟨bt, 0, none⟩ = some (.func (.func 73) #[] #[])) (ck0 : w.cell? ⟨kp, 0, none⟩ = some (.float .f64 hx1)) (ck1 : w.cell? ⟨kp, 1, none⟩ = some (.float .f64 hy1)) (ck2 : w.cell? ⟨kp, 2, none⟩ = some (.float .f64 nx1)) (ck3 : w.cell? ⟨kp, 3, none⟩ = some (.float .f64 ny1)) (ck4 : w.cell? ⟨kp, 4, none⟩ = some (.float .f64 ht1)) (n1 : kp ≠ si) (n2 : bt ≠ kp) (n3 : bt ≠ si) (f1 : ∀ o, w.frozen? ⟨kp, o, none⟩ = false) (f2 : ∀ o, w.frozen? ⟨si, o, none⟩ = false) (hb : b = true) (ht : ltK .f64 ht1 ht2 = false) : Calls Tryz.prog 97 #[.agg #[.float .f64 hx2, .float .f64 hy2, .float .f64 nx2, .float .f64 ny2, .float .f64 ht2], .pointer (some ⟨si, 0, none⟩), .pointer (some ⟨bt, 0, none⟩), .pointer (some ⟨kp, 0, none⟩)] w fun e w' => e = .returned (.tuple #[]) ∧ w'.cell? ⟨kp, 0, none⟩ = some (.float .f64 hx1) ∧ w'.cell? ⟨kp, 1, none⟩ = some (.float .f64 hy1) ∧ w'.cell? ⟨kp, 2, none⟩ = some (.float .f64 nx1) ∧ w'.cell? ⟨kp, 3, none⟩ = some (.float .f64 ny1) ∧ w'.cell? ⟨kp, 4, none⟩ = some (.float .f64 ht1) ∧ w'.cell? ⟨si, 0, none⟩ = some (.bool true) ∧ w'.cell? ⟨bt, 0, none⟩ = some (.func (.func 73) #[] #[]) ∧ (∀ a, Bel a w → a.heap.size ≤ kp → a.heap.size ≤ si → Bel a w') ∧ ∀ (c p : Nat) (v : Value), c ≠ kp → c ≠ si → w.cell? ⟨c, p, none⟩ = some v → w'.cell? ⟨c, p, none⟩ = some v := by
  subst hb
  have li := World.block_lt_of_cell? _ _ ci
  have lb := World.block_lt_of_cell? _ _ cb
  have lk := World.block_lt_of_cell? _ _ ck0
  simp only at li lb lk
  obtain ⟨z0_0, z0_1, z0_2, z0_3, z0_4, B0⟩ := bxYd0 w hx2 hy2 nx2 ny2 ht2 _ rfl
  have cia := keep B0 ci
  have cba := keep B0 cb
  have ck0a := keep B0 ck0
  have ck1a := keep B0 ck1
  have ck2a := keep B0 ck2
  have ck3a := keep B0 ck3
  have ck4a := keep B0 ck4
  have f1a : ∀ o, (w.alloc (.cells #[.float .f64 hx2, .float .f64 hy2, .float .f64 nx2, .float .f64 ny2, .float .f64 ht2] 28)).frozen? ⟨kp, o, none⟩ = false := fun o => (B0.2 _).trans (f1 o)
  have f2a : ∀ o, (w.alloc (.cells #[.float .f64 hx2, .float .f64 hy2, .float .f64 nx2, .float .f64 ny2, .float .f64 ht2] 28)).frozen? ⟨si, o, none⟩ = false := fun o => (B0.2 _).trans (f2 o)
  have nk : kp ≠ w.heap.size := by omega
  have ni : si ≠ w.heap.size := by omega
  go_enter Tryz.func97, Tryz.ntmps97
  go_wp2_with (first | (go_at_call 73; (with_reducible refine (later_n _ _ _).mono ?_); rintro e w1 ⟨rfl, hW⟩; rw [hW]))
  refine bodyPost_end (v := .tuple #[]) (by simp [results, Tryz.results97, go_sem] <;> rfl) rfl ⟨rfl, ck0a, ck1a, ck2a, ck3a, ck4a, cia, cba, fun a ha _ _ => bl_trans ha B0, fun c p v _ _ h => keep B0 h⟩

set_option maxRecDepth 100000 in
theorem tellS0 {si bt kp : Nat} {b : Bool} {hx1 hy1 nx1 ny1 ht1 hx2 hy2 nx2 ny2 ht2 : Nat} (w : World) (ci : w.cell? ⟨si, 0, none⟩ = some (.bool b)) (cb : w.cell? ⟨bt, 0, none⟩ = some (.func (.func 80) #[] #[])) (ck0 : w.cell? ⟨kp, 0, none⟩ = some (.float .f64 hx1)) (ck1 : w.cell? ⟨kp, 1, none⟩ = some (.float .f64 hy1)) (ck2 : w.cell? ⟨kp, 2, none⟩ = some (.float .f64 nx1)) (ck3 : w.cell? ⟨kp, 3, none⟩ = some (.float .f64 ny1)) (ck4 : w.cell? ⟨kp, 4, none⟩ = some (.float .f64 ht1)) (n1 : kp ≠ si) (n2 : bt ≠ kp) (n3 : bt ≠ si) (f1 : ∀ o, w.frozen? ⟨kp, o, none⟩ = false) (f2 : ∀ o, w.frozen? ⟨si, o, none⟩ = false) (hb : b = false) : Calls Tryz.prog 97 #[.agg #[.float .f64 hx2, .float .f64 hy2, .float .f64 nx2, .float .f64 ny2, .float .f64 ht2], .pointer (some ⟨si, 0, none⟩), .pointer (some ⟨bt, 0, none⟩), .pointer (some ⟨kp, 0, none⟩)] w fun e w' => e = .returned (.tuple #[]) ∧ w'.cell? ⟨kp, 0, none⟩ = some (.float .f64 hx2) ∧ w'.cell? ⟨kp, 1, none⟩ = some (.float .f64 hy2) ∧ w'.cell? ⟨kp, 2, none⟩ = some (.float .f64 nx2) ∧ w'.cell? ⟨kp, 3, none⟩ = some (.float .f64 ny2) ∧ w'.cell? ⟨kp, 4, none⟩ = some (.float .f64 ht2) ∧ w'.cell? ⟨si, 0, none⟩ = some (.bool true) ∧ w'.cell? ⟨bt, 0, none⟩ = some (.func (.func 80) #[] #[]) ∧ (∀ a, Bel a w → a.heap.size ≤ kp → a.heap.size ≤ si → Bel a w') ∧ ∀ (c p : Nat) (v : Value), c ≠ kp → c ≠ si → w.cell? ⟨c, p, none⟩ = some v → w'.cell? ⟨c, p, none⟩ = some v := by
  subst hb
  have li := World.block_lt_of_cell? _ _ ci
  have lb := World.block_lt_of_cell? _ _ cb
  have lk := World.block_lt_of_cell? _ _ ck0
  simp only at li lb lk
  obtain ⟨z0_0, z0_1, z0_2, z0_3, z0_4, B0⟩ := bxYd0 w hx2 hy2 nx2 ny2 ht2 _ rfl
  have cia := keep B0 ci
  have cba := keep B0 cb
  have ck0a := keep B0 ck0
  have ck1a := keep B0 ck1
  have ck2a := keep B0 ck2
  have ck3a := keep B0 ck3
  have ck4a := keep B0 ck4
  have f1a : ∀ o, (w.alloc (.cells #[.float .f64 hx2, .float .f64 hy2, .float .f64 nx2, .float .f64 ny2, .float .f64 ht2] 28)).frozen? ⟨kp, o, none⟩ = false := fun o => (B0.2 _).trans (f1 o)
  have f2a : ∀ o, (w.alloc (.cells #[.float .f64 hx2, .float .f64 hy2, .float .f64 nx2, .float .f64 ny2, .float .f64 ht2] 28)).frozen? ⟨si, o, none⟩ = false := fun o => (B0.2 _).trans (f2 o)
  have nk : kp ≠ w.heap.size := by omega
  have ni : si ≠ w.heap.size := by omega
  go_enter Tryz.func97, Tryz.ntmps97
  go_wp2_with (first | fail)
  obtain ⟨X, hX, r0, r1, r2, r3, r4, rF, bX⟩ := put5_all (p := .float .f64 hx2) (q := .float .f64 hy2) (r := .float .f64 nx2) (s := .float .f64 ny2) (t := .float .f64 ht2) ck0 ck1 ck2 ck3 ck4
  rw [← hX]
  have ci2 := (rF si 0 (.inl n1.symm)).trans ci
  have cb2 := (rF bt 0 (.inl n2)).trans cb
  refine bodyPost_end (v := .tuple #[]) (by simp [results, Tryz.results97, go_sem] <;> rfl) rfl ⟨rfl, up_alloc ((set_else (.inl n1)).trans r0), up_alloc ((set_else (.inl n1)).trans r1), up_alloc ((set_else (.inl n1)).trans r2), up_alloc ((set_else (.inl n1)).trans r3), up_alloc ((set_else (.inl n1)).trans r4), up_alloc (World.cell?_setCell_same _ _ _ ci2), up_alloc ((set_else (.inl n3)).trans cb2), fun a ha h1 h2 => bl_alloc (bl_set (bX a ha h1) h2) _ _, fun c p v h1 h2 h => up_alloc ((set_else (.inl h2)).trans ((rF c p (.inl h1)).trans h))⟩

set_option maxRecDepth 100000 in
theorem tellS1 {si bt kp : Nat} {b : Bool} {hx1 hy1 nx1 ny1 ht1 hx2 hy2 nx2 ny2 ht2 : Nat} (w : World) (ci : w.cell? ⟨si, 0, none⟩ = some (.bool b)) (cb : w.cell? ⟨bt, 0, none⟩ = some (.func (.func 80) #[] #[])) (ck0 : w.cell? ⟨kp, 0, none⟩ = some (.float .f64 hx1)) (ck1 : w.cell? ⟨kp, 1, none⟩ = some (.float .f64 hy1)) (ck2 : w.cell? ⟨kp, 2, none⟩ = some (.float .f64 nx1)) (ck3 : w.cell? ⟨kp, 3, none⟩ = some (.float .f64 ny1)) (ck4 : w.cell? ⟨kp, 4, none⟩ = some (.float .f64 ht1)) (n1 : kp ≠ si) (n2 : bt ≠ kp) (n3 : bt ≠ si) (f1 : ∀ o, w.frozen? ⟨kp, o, none⟩ = false) (f2 : ∀ o, w.frozen? ⟨si, o, none⟩ = false) (hb : b = true) (ht : ltK .f64 ht2 ht1 = true) : Calls Tryz.prog 97 #[.agg #[.float .f64 hx2, .float .f64 hy2, .float .f64 nx2, .float .f64 ny2, .float .f64 ht2], .pointer (some ⟨si, 0, none⟩), .pointer (some ⟨bt, 0, none⟩), .pointer (some ⟨kp, 0, none⟩)] w fun e w' => e = .returned (.tuple #[]) ∧ w'.cell? ⟨kp, 0, none⟩ = some (.float .f64 hx2) ∧ w'.cell? ⟨kp, 1, none⟩ = some (.float .f64 hy2) ∧ w'.cell? ⟨kp, 2, none⟩ = some (.float .f64 nx2) ∧ w'.cell? ⟨kp, 3, none⟩ = some (.float .f64 ny2) ∧ w'.cell? ⟨kp, 4, none⟩ = some (.float .f64 ht2) ∧ w'.cell? ⟨si, 0, none⟩ = some (.bool true) ∧ w'.cell? ⟨bt, 0, none⟩ = some (.func (.func 80) #[] #[]) ∧ (∀ a, Bel a w → a.heap.size ≤ kp → a.heap.size ≤ si → Bel a w') ∧ ∀ (c p : Nat) (v : Value), c ≠ kp → c ≠ si → w.cell? ⟨c, p, none⟩ = some v → w'.cell? ⟨c, p, none⟩ = some v := by
  subst hb
  have li := World.block_lt_of_cell? _ _ ci
  have lb := World.block_lt_of_cell? _ _ cb
  have lk := World.block_lt_of_cell? _ _ ck0
  simp only at li lb lk
  obtain ⟨z0_0, z0_1, z0_2, z0_3, z0_4, B0⟩ := bxYd0 w hx2 hy2 nx2 ny2 ht2 _ rfl
  have cia := keep B0 ci
  have cba := keep B0 cb
  have ck0a := keep B0 ck0
  have ck1a := keep B0 ck1
  have ck2a := keep B0 ck2
  have ck3a := keep B0 ck3
  have ck4a := keep B0 ck4
  have f1a : ∀ o, (w.alloc (.cells #[.float .f64 hx2, .float .f64 hy2, .float .f64 nx2, .float .f64 ny2, .float .f64 ht2] 28)).frozen? ⟨kp, o, none⟩ = false := fun o => (B0.2 _).trans (f1 o)
  have f2a : ∀ o, (w.alloc (.cells #[.float .f64 hx2, .float .f64 hy2, .float .f64 nx2, .float .f64 ny2, .float .f64 ht2] 28)).frozen? ⟨si, o, none⟩ = false := fun o => (B0.2 _).trans (f2 o)
  have nk : kp ≠ w.heap.size := by omega
  have ni : si ≠ w.heap.size := by omega
  go_enter Tryz.func97, Tryz.ntmps97
  go_wp2_with (first | (go_at_call 80; (with_reducible refine (sooner_n _ _ _).mono ?_); rintro e w1 ⟨rfl, hW⟩; rw [hW]))
  obtain ⟨X, hX, r0, r1, r2, r3, r4, rF, bX⟩ := put5_all (p := .float .f64 hx2) (q := .float .f64 hy2) (r := .float .f64 nx2) (s := .float .f64 ny2) (t := .float .f64 ht2) ck0 ck1 ck2 ck3 ck4
  rw [← hX]
  have ci2 := (rF si 0 (.inl n1.symm)).trans ci
  have cb2 := (rF bt 0 (.inl n2)).trans cb
  refine bodyPost_end (v := .tuple #[]) (by simp [results, Tryz.results97, go_sem] <;> rfl) rfl ⟨rfl, up_alloc ((set_else (.inl n1)).trans r0), up_alloc ((set_else (.inl n1)).trans r1), up_alloc ((set_else (.inl n1)).trans r2), up_alloc ((set_else (.inl n1)).trans r3), up_alloc ((set_else (.inl n1)).trans r4), up_alloc (World.cell?_setCell_same _ _ _ ci2), up_alloc ((set_else (.inl n3)).trans cb2), fun a ha h1 h2 => bl_alloc (bl_set (bX a ha h1) h2) _ _, fun c p v h1 h2 h => up_alloc ((set_else (.inl h2)).trans ((rF c p (.inl h1)).trans h))⟩

set_option maxRecDepth 100000 in
theorem tellS2 {si bt kp : Nat} {b : Bool} {hx1 hy1 nx1 ny1 ht1 hx2 hy2 nx2 ny2 ht2 : Nat} (w : World) (ci : w.cell? ⟨si, 0, none⟩ = some (.bool b)) (cb : w.cell? ⟨bt, 0, none⟩ = some (.func (.func 80) #[] #[])) (ck0 : w.cell? ⟨kp, 0, none⟩ = some (.float .f64 hx1)) (ck1 : w.cell? ⟨kp, 1, none⟩ = some (.float .f64 hy1)) (ck2 : w.cell? ⟨kp, 2, none⟩ = some (.float .f64 nx1)) (ck3 : w.cell? ⟨kp, 3, none⟩ = some (.float .f64 ny1)) (ck4 : w.cell? ⟨kp, 4, none⟩ = some (.float .f64 ht1)) (n1 : kp ≠ si) (n2 : bt ≠ kp) (n3 : bt ≠ si) (f1 : ∀ o, w.frozen? ⟨kp, o, none⟩ = false) (f2 : ∀ o, w.frozen? ⟨si, o, none⟩ = false) (hb : b = true) (ht : ltK .f64 ht2 ht1 = false) : Calls Tryz.prog 97 #[.agg #[.float .f64 hx2, .float .f64 hy2, .float .f64 nx2, .float .f64 ny2, .float .f64 ht2], .pointer (some ⟨si, 0, none⟩), .pointer (some ⟨bt, 0, none⟩), .pointer (some ⟨kp, 0, none⟩)] w fun e w' => e = .returned (.tuple #[]) ∧ w'.cell? ⟨kp, 0, none⟩ = some (.float .f64 hx1) ∧ w'.cell? ⟨kp, 1, none⟩ = some (.float .f64 hy1) ∧ w'.cell? ⟨kp, 2, none⟩ = some (.float .f64 nx1) ∧ w'.cell? ⟨kp, 3, none⟩ = some (.float .f64 ny1) ∧ w'.cell? ⟨kp, 4, none⟩ = some (.float .f64 ht1) ∧ w'.cell? ⟨si, 0, none⟩ = some (.bool true) ∧ w'.cell? ⟨bt, 0, none⟩ = some (.func (.func 80) #[] #[]) ∧ (∀ a, Bel a w → a.heap.size ≤ kp → a.heap.size ≤ si → Bel a w') ∧ ∀ (c p : Nat) (v : Value), c ≠ kp → c ≠ si → w.cell? ⟨c, p, none⟩ = some v → w'.cell? ⟨c, p, none⟩ = some v := by
  subst hb
  have li := World.block_lt_of_cell? _ _ ci
  have lb := World.block_lt_of_cell? _ _ cb
  have lk := World.block_lt_of_cell? _ _ ck0
  simp only at li lb lk
  obtain ⟨z0_0, z0_1, z0_2, z0_3, z0_4, B0⟩ := bxYd0 w hx2 hy2 nx2 ny2 ht2 _ rfl
  have cia := keep B0 ci
  have cba := keep B0 cb
  have ck0a := keep B0 ck0
  have ck1a := keep B0 ck1
  have ck2a := keep B0 ck2
  have ck3a := keep B0 ck3
  have ck4a := keep B0 ck4
  have f1a : ∀ o, (w.alloc (.cells #[.float .f64 hx2, .float .f64 hy2, .float .f64 nx2, .float .f64 ny2, .float .f64 ht2] 28)).frozen? ⟨kp, o, none⟩ = false := fun o => (B0.2 _).trans (f1 o)
  have f2a : ∀ o, (w.alloc (.cells #[.float .f64 hx2, .float .f64 hy2, .float .f64 nx2, .float .f64 ny2, .float .f64 ht2] 28)).frozen? ⟨si, o, none⟩ = false := fun o => (B0.2 _).trans (f2 o)
  have nk : kp ≠ w.heap.size := by omega
  have ni : si ≠ w.heap.size := by omega
  go_enter Tryz.func97, Tryz.ntmps97
  go_wp2_with (first | (go_at_call 80; (with_reducible refine (sooner_n _ _ _).mono ?_); rintro e w1 ⟨rfl, hW⟩; rw [hW]))
  refine bodyPost_end (v := .tuple #[]) (by simp [results, Tryz.results97, go_sem] <;> rfl) rfl ⟨rfl, ck0a, ck1a, ck2a, ck3a, ck4a, cia, cba, fun a ha _ _ => bl_trans ha B0, fun c p v _ _ h => keep B0 h⟩

set_option maxRecDepth 100000 in
theorem best_n {kp si : Nat} {b : Bool} {hx1 hy1 nx1 ny1 ht1 : Nat} (w : World) (ci : w.cell? ⟨si, 0, none⟩ = some (.bool b)) (ck0 : w.cell? ⟨kp, 0, none⟩ = some (.float .f64 hx1)) (ck1 : w.cell? ⟨kp, 1, none⟩ = some (.float .f64 hy1)) (ck2 : w.cell? ⟨kp, 2, none⟩ = some (.float .f64 nx1)) (ck3 : w.cell? ⟨kp, 3, none⟩ = some (.float .f64 ny1)) (ck4 : w.cell? ⟨kp, 4, none⟩ = some (.float .f64 ht1)) : Calls Tryz.prog 98 #[.pointer (some ⟨kp, 0, none⟩), .pointer (some ⟨si, 0, none⟩)] w fun e w' => e = .returned (.tuple #[.agg #[.float .f64 hx1, .float .f64 hy1, .float .f64 nx1, .float .f64 ny1, .float .f64 ht1], .bool b]) ∧ Bel w w' := by
  have li := World.block_lt_of_cell? _ _ ci
  have lk := World.block_lt_of_cell? _ _ ck0
  simp only at li lk
  obtain ⟨z0_0, z0_1, z0_2, z0_3, z0_4, B0⟩ := bxYd1 w  _ rfl
  have cia := keep B0 ci
  have ck0a := keep B0 ck0
  have ck1a := keep B0 ck1
  have ck2a := keep B0 ck2
  have ck3a := keep B0 ck3
  have ck4a := keep B0 ck4
  have fR : ∀ o, (w.alloc (.cells #[.float .f64 0, .float .f64 0, .float .f64 0, .float .f64 0, .float .f64 0] 28)).frozen? ⟨w.heap.size, o, none⟩ = false := fun o => (B0.2 _).trans (fresh_frozen (Nat.le_refl _))
  go_enter Tryz.func98, Tryz.ntmps98
  go_wp2
  go_region
  all_goals
    go_wp2
    have y0 : ((w.alloc (.cells #[.float .f64 hx1, .float .f64 hy1, .float .f64 nx1, .float .f64 ny1, .float .f64 ht1] 28)).drew).cell? ⟨w.heap.size, 0, none⟩ = some (.float .f64 hx1) := up_drew (by rw [World.cell?_alloc_new]; rfl)
    have y1 : ((w.alloc (.cells #[.float .f64 hx1, .float .f64 hy1, .float .f64 nx1, .float .f64 ny1, .float .f64 ht1] 28)).drew).cell? ⟨w.heap.size, 1, none⟩ = some (.float .f64 hy1) := up_drew (by rw [World.cell?_alloc_new]; rfl)
    have y2 : ((w.alloc (.cells #[.float .f64 hx1, .float .f64 hy1, .float .f64 nx1, .float .f64 ny1, .float .f64 ht1] 28)).drew).cell? ⟨w.heap.size, 2, none⟩ = some (.float .f64 nx1) := up_drew (by rw [World.cell?_alloc_new]; rfl)
    have y3 : ((w.alloc (.cells #[.float .f64 hx1, .float .f64 hy1, .float .f64 nx1, .float .f64 ny1, .float .f64 ht1] 28)).drew).cell? ⟨w.heap.size, 3, none⟩ = some (.float .f64 ny1) := up_drew (by rw [World.cell?_alloc_new]; rfl)
    have y4 : ((w.alloc (.cells #[.float .f64 hx1, .float .f64 hy1, .float .f64 nx1, .float .f64 ny1, .float .f64 ht1] 28)).drew).cell? ⟨w.heap.size, 4, none⟩ = some (.float .f64 ht1) := up_drew (by rw [World.cell?_alloc_new]; rfl)
    refine bodyPost_ret (v := .tuple #[.agg #[.float .f64 hx1, .float .f64 hy1, .float .f64 nx1, .float .f64 ny1, .float .f64 ht1], .bool b]) (by simp [y0, y1, y2, y3, y4, results, Tryz.results98, go_sem] <;> (first | exact ⟨rfl, rfl⟩ | rfl)) rfl ⟨rfl, bl_drew (bl_alloc (bl_refl _) _ _)⟩

end Go.Proofs.YtdeooadeohojcaaGreat
