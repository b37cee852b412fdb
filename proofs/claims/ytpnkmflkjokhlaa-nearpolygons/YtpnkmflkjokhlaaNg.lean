/-
  What each function of package poly answers, and what the reference of its chapter answers: one contract a function, for every float: the answer stands in the relation of its formula to what was given; of the memory that was there nothing has turned.
-/
import Derived.Test.YtpnkmflkjokhlaaVec
import Derived.Test.YtpnkmflkjokhlaaNf
import Derived.Below
import Derived.WalkKit
import Derived.WalkLawsBesides
import Derived.WalkSpells
import Derived.ProofKit
import Derived.OpenShut
import Derived.Deep.RegionHeld3
namespace Go.Proofs.Ytpnkmflkjokhlaa
open Go.ChangeShapes Go.WideShapes Go.ChangeAt Go.RowKit
set_option linter.unusedVariables false
set_option linter.unusedSimpArgs false


theorem sameF_n {r t q : Nat} (w : World) (h : isF r q) (g : isF t q) : Calls Try.prog 11 #[.float .f64 r, .float .f64 t] w fun e w' => e = .returned (.bool true) ∧ w' = w :=
  (rSame_any r t w h.1 g.1).mono fun e w' ⟨he, hw⟩ => ⟨by rw [he, F_same h g], hw⟩
theorem isP.f1 {x y : Nat} {p : Vp} (h : isP x y p) : isF x p.1 := ⟨h.1, by rw [← h.2.2]; rfl⟩
theorem isP.f2 {x y : Nat} {p : Vp} (h : isP x y p) : isF y p.2 := ⟨h.2.1, by rw [← h.2.2]; rfl⟩
theorem sameVec_n {x y u v : Nat} {p : Vp} (w : World) (h : isP x y p) (g : isP u v p) : Calls Try.prog 10 #[.agg #[.float .f64 x, .float .f64 y], .agg #[.float .f64 u, .float .f64 v]] w fun e w' => e = .returned (.bool true) ∧ Bel w w' := by
  go_enter Try.func10, Try.ntmps10
  go_wp2_with (first | (go_at_call 11; with_reducible refine (sameF_n _ h.f1 g.f1).mono ?_; rintro e w' ⟨rfl, rfl⟩) | (go_at_call 11; with_reducible refine (sameF_n _ h.f2 g.f2).mono ?_; rintro e w' ⟨rfl, rfl⟩))
  go_ret
  refine ⟨rfl, ?_⟩
  repeat (first | exact bl_refl _ | assumption | apply bl_drewN | apply bl_drew | apply bl_alloc | refine bl_set ?_ (by simp <;> omega) | refine bl_trans ?_ (by assumption))
set_option maxHeartbeats 1000000 in
theorem same_n {nf1 na1 nb1 nc1 nd1 nf2 na2 nb2 nc2 nd2 : Nat} {n : Nr} (w : World) (h : isN nf1 na1 nb1 nc1 nd1 (n)) (g : isN nf2 na2 nb2 nc2 nd2 (n)) : Calls Try.prog 12 #[.agg #[.float .f64 nf1, .float .f64 na1, .float .f64 nb1, .float .f64 nc1, .float .f64 nd1], .agg #[.float .f64 nf2, .float .f64 na2, .float .f64 nb2, .float .f64 nc2, .float .f64 nd2]] w fun e w' => e = .returned (.bool true) ∧ Bel w w' := by
  obtain ⟨h1, h2, h3⟩ := h
  obtain ⟨g1, g2, g3⟩ := g
  have z0_0 : (w.alloc (.cells #[.float .f64 nf1, .float .f64 na1, .float .f64 nb1, .float .f64 nc1, .float .f64 nd1] 33)).cell? ⟨w.heap.size, 0, none⟩ = some (.float .f64 nf1) := by rw [World.cell?_alloc_new]; rfl
  replace z0_0 := up_alloc (o := .cells #[.float .f64 nf2, .float .f64 na2, .float .f64 nb2, .float .f64 nc2, .float .f64 nd2] 33) z0_0
  have z0_1 : (w.alloc (.cells #[.float .f64 nf1, .float .f64 na1, .float .f64 nb1, .float .f64 nc1, .float .f64 nd1] 33)).cell? ⟨w.heap.size, 1, none⟩ = some (.float .f64 na1) := by rw [World.cell?_alloc_new]; rfl
  replace z0_1 := up_alloc (o := .cells #[.float .f64 nf2, .float .f64 na2, .float .f64 nb2, .float .f64 nc2, .float .f64 nd2] 33) z0_1
  have z0_2 : (w.alloc (.cells #[.float .f64 nf1, .float .f64 na1, .float .f64 nb1, .float .f64 nc1, .float .f64 nd1] 33)).cell? ⟨w.heap.size, 2, none⟩ = some (.float .f64 nb1) := by rw [World.cell?_alloc_new]; rfl
  replace z0_2 := up_alloc (o := .cells #[.float .f64 nf2, .float .f64 na2, .float .f64 nb2, .float .f64 nc2, .float .f64 nd2] 33) z0_2
  have z0_3 : (w.alloc (.cells #[.float .f64 nf1, .float .f64 na1, .float .f64 nb1, .float .f64 nc1, .float .f64 nd1] 33)).cell? ⟨w.heap.size, 3, none⟩ = some (.float .f64 nc1) := by rw [World.cell?_alloc_new]; rfl
  replace z0_3 := up_alloc (o := .cells #[.float .f64 nf2, .float .f64 na2, .float .f64 nb2, .float .f64 nc2, .float .f64 nd2] 33) z0_3
  have z0_4 : (w.alloc (.cells #[.float .f64 nf1, .float .f64 na1, .float .f64 nb1, .float .f64 nc1, .float .f64 nd1] 33)).cell? ⟨w.heap.size, 4, none⟩ = some (.float .f64 nd1) := by rw [World.cell?_alloc_new]; rfl
  replace z0_4 := up_alloc (o := .cells #[.float .f64 nf2, .float .f64 na2, .float .f64 nb2, .float .f64 nc2, .float .f64 nd2] 33) z0_4
  have z1_0 : ((w.alloc (.cells #[.float .f64 nf1, .float .f64 na1, .float .f64 nb1, .float .f64 nc1, .float .f64 nd1] 33)).alloc (.cells #[.float .f64 nf2, .float .f64 na2, .float .f64 nb2, .float .f64 nc2, .float .f64 nd2] 33)).cell? ⟨w.heap.size + 1, 0, none⟩ = some (.float .f64 nf2) := by rw [← (show (w.alloc (.cells #[.float .f64 nf1, .float .f64 na1, .float .f64 nb1, .float .f64 nc1, .float .f64 nd1] 33)).heap.size = w.heap.size + 1 by simp only [World.size_alloc]), World.cell?_alloc_new]; rfl
  have z1_1 : ((w.alloc (.cells #[.float .f64 nf1, .float .f64 na1, .float .f64 nb1, .float .f64 nc1, .float .f64 nd1] 33)).alloc (.cells #[.float .f64 nf2, .float .f64 na2, .float .f64 nb2, .float .f64 nc2, .float .f64 nd2] 33)).cell? ⟨w.heap.size + 1, 1, none⟩ = some (.float .f64 na2) := by rw [← (show (w.alloc (.cells #[.float .f64 nf1, .float .f64 na1, .float .f64 nb1, .float .f64 nc1, .float .f64 nd1] 33)).heap.size = w.heap.size + 1 by simp only [World.size_alloc]), World.cell?_alloc_new]; rfl
  have z1_2 : ((w.alloc (.cells #[.float .f64 nf1, .float .f64 na1, .float .f64 nb1, .float .f64 nc1, .float .f64 nd1] 33)).alloc (.cells #[.float .f64 nf2, .float .f64 na2, .float .f64 nb2, .float .f64 nc2, .float .f64 nd2] 33)).cell? ⟨w.heap.size + 1, 2, none⟩ = some (.float .f64 nb2) := by rw [← (show (w.alloc (.cells #[.float .f64 nf1, .float .f64 na1, .float .f64 nb1, .float .f64 nc1, .float .f64 nd1] 33)).heap.size = w.heap.size + 1 by simp only [World.size_alloc]), World.cell?_alloc_new]; rfl
  have z1_3 : ((w.alloc (.cells #[.float .f64 nf1, .float .f64 na1, .float .f64 nb1, .float .f64 nc1, .float .f64 nd1] 33)).alloc (.cells #[.float .f64 nf2, .float .f64 na2, .float .f64 nb2, .float .f64 nc2, .float .f64 nd2] 33)).cell? ⟨w.heap.size + 1, 3, none⟩ = some (.float .f64 nc2) := by rw [← (show (w.alloc (.cells #[.float .f64 nf1, .float .f64 na1, .float .f64 nb1, .float .f64 nc1, .float .f64 nd1] 33)).heap.size = w.heap.size + 1 by simp only [World.size_alloc]), World.cell?_alloc_new]; rfl
  have z1_4 : ((w.alloc (.cells #[.float .f64 nf1, .float .f64 na1, .float .f64 nb1, .float .f64 nc1, .float .f64 nd1] 33)).alloc (.cells #[.float .f64 nf2, .float .f64 na2, .float .f64 nb2, .float .f64 nc2, .float .f64 nd2] 33)).cell? ⟨w.heap.size + 1, 4, none⟩ = some (.float .f64 nd2) := by rw [← (show (w.alloc (.cells #[.float .f64 nf1, .float .f64 na1, .float .f64 nb1, .float .f64 nc1, .float .f64 nd1] 33)).heap.size = w.heap.size + 1 by simp only [World.size_alloc]), World.cell?_alloc_new]; rfl
  have B0 : Bel w ((w.alloc (.cells #[.float .f64 nf1, .float .f64 na1, .float .f64 nb1, .float .f64 nc1, .float .f64 nd1] 33)).alloc (.cells #[.float .f64 nf2, .float .f64 na2, .float .f64 nb2, .float .f64 nc2, .float .f64 nd2] 33)) := bl_alloc (bl_alloc (bl_refl w) _ _) _ _
  go_enter Try.func12, Try.ntmps12
  go_wp2_with (first | (go_at_call 11; refine (sameF_n _ h1 g1).mono ?_; rintro e w' ⟨rfl, rfl⟩) | (go_at_call 10; with_reducible refine (sameVec_n _ h2 g2).mono ?_; rintro e w' ⟨rfl, hb⟩; replace z0_0 := keep hb z0_0; replace z0_1 := keep hb z0_1; replace z0_2 := keep hb z0_2; replace z0_3 := keep hb z0_3; replace z0_4 := keep hb z0_4; replace z1_0 := keep hb z1_0; replace z1_1 := keep hb z1_1; replace z1_2 := keep hb z1_2; replace z1_3 := keep hb z1_3; replace z1_4 := keep hb z1_4; have BF := hb; clear hb) | (go_at_call 10; with_reducible refine (sameVec_n _ h3 g3).mono ?_; rintro e w2 ⟨rfl, hb⟩; replace BF := bl_trans BF hb; clear hb))
  go_ret
  exact ⟨rfl, bl_trans B0 BF⟩

end Go.Proofs.Ytpnkmflkjokhlaa
