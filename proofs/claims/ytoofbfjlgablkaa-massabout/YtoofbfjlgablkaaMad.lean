/-
  MassAbout: what the law calls, and its walk.
-/
import Derived.Test.YtoofbfjlgablkaaMab
import Derived.Below
import Derived.OwnWalk
import Derived.Laws.AppendOwn
import Derived.Laws.StructEq
import Derived.WalkKit
import Derived.WalkLawsBesides
import Derived.WalkSpells
import Derived.ProofKit
import Derived.OpenShut
import Derived.Deep.RegionHeld3
namespace Go.Proofs.Ytoofbfjlgablkaa
open Go.ChangeShapes Go.WideShapes Go.ChangeAt Go.RowKit
set_option linter.unusedVariables false
set_option linter.unusedSimpArgs false

theorem joinA_nil {ms js xs ys : Nat → Nat} {m j x y : Nat} {f : Int} (h : JoinA ms js xs ys 0 AboutR m j x y f) : m = 0 ∧ j = 0 ∧ x = 0 ∧ y = 0 ∧ f = 0 := by
  rcases h with ⟨h1, _⟩ | ⟨_, h2, _⟩ | ⟨_, h3⟩ | ⟨h1, _⟩ | ⟨h1, _⟩
  · omega
  · exact absurd (fun q hq => absurd hq (Nat.not_lt_zero q)) h2
  · exact h3
  · omega
  · omega
set_option maxRecDepth 100000 in
set_option maxHeartbeats 16000000 in
theorem about_none (a : Option Addr) (cap : Nat) (px py : Nat) (op : okK .f64 px) (oq : okK .f64 py) (w : World) : Calls Try.prog 4 #[.slice a 0 cap, .agg #[.float .f64 px, .float .f64 py]] w fun e w' => e = .returned (.bool true) ∧ Bel w w' := by
  have kp0 : (w.alloc (.cells #[.float .f64 px, .float .f64 py] 26)).cell? ⟨w.heap.size, 0, none⟩ = some (.float .f64 px) := by rw [World.cell?_alloc_new]; rfl
  have kp1 : (w.alloc (.cells #[.float .f64 px, .float .f64 py] 26)).cell? ⟨w.heap.size, 1, none⟩ = some (.float .f64 py) := by rw [World.cell?_alloc_new]; rfl
  go_enter Try.func4, Try.ntmps4
  repeat (first | (go_at_call 5; (with_reducible refine (alive8 _).mono ?_); rintro e w1 ⟨rfl, hb⟩; have kp0 := keep hb kp0; have kp1 := keep hb kp1; have B1 := bl_trans (bl_alloc (bl_refl w) _ _) hb; clear hb) | (go_at_call 6; (with_reducible refine (join_none a cap nX0 nX0 nX0 nX0 _).mono ?_); rintro e w2 ⟨m, j, x, y, f, hJ, rfl, hb⟩; obtain ⟨rfl, rfl, rfl, rfl, rfl⟩ := joinA_nil hJ; have bM := bl_trans hb (bl_alloc (bl_refl w2) (#[.float .f64 0, .float .f64 0, .float .f64 0, .float .f64 0] : Array Value) 28); have kp0 := keep bM kp0; have kp1 := keep bM kp1; have BB := bl_trans B1 bM; have u0 : (w2.alloc (.cells #[.float .f64 0, .float .f64 0, .float .f64 0, .float .f64 0] 28)).cell? ⟨w2.heap.size, 0, none⟩ = some (.float .f64 0) := (by rw [World.cell?_alloc_new]; rfl); have u1 : (w2.alloc (.cells #[.float .f64 0, .float .f64 0, .float .f64 0, .float .f64 0] 28)).cell? ⟨w2.heap.size, 1, none⟩ = some (.float .f64 0) := (by rw [World.cell?_alloc_new]; rfl); have u2 : (w2.alloc (.cells #[.float .f64 0, .float .f64 0, .float .f64 0, .float .f64 0] 28)).cell? ⟨w2.heap.size, 2, none⟩ = some (.float .f64 0) := (by rw [World.cell?_alloc_new]; rfl); have u3 : (w2.alloc (.cells #[.float .f64 0, .float .f64 0, .float .f64 0, .float .f64 0] 28)).cell? ⟨w2.heap.size, 3, none⟩ = some (.float .f64 0) := (by rw [World.cell?_alloc_new]; rfl); clear hb bM) | go_values | go_skip | go_guarded | go_step | go_upon | go_back | dsimp only)
  generalize (w2.alloc (.cells #[.float .f64 0, .float .f64 0, .float .f64 0, .float .f64 0] 28)) = wB at *
  generalize w2.heap.size = mb at *
  have hm : mB 0 0 0 0 = true := by decide +kernel
  have ox : okK .f64 0 := by unfold okK; decide
  have t1 := tinies.2.2.2.2
  have ncmp := cmp_ne .f64
  have lcmp := cmp_lt .f64
  refine wp_loop_rounds 1 ?_
  rw [rounds_succ]
  repeat ((fail_if_success (with_reducible show wpList _ _ _ ({ dst := some 66, op := _, type := _, pos := _, after := _, guard := _ } :: _) _ _)); (first | (go_at_call 6; (with_reducible refine (join_none none 0 nX0 nX0 nX0 nX0 _).mono ?_); rintro e w3 ⟨m2, j2, x2, y2, f2, hJ2, rfl, hb⟩; obtain ⟨rfl, rfl, rfl, rfl, rfl⟩ := joinA_nil hJ2; have bM := bl_trans hb (bl_alloc (bl_refl w3) (#[.float .f64 0, .float .f64 0, .float .f64 0, .float .f64 0] : Array Value) 28); have kp0 := keep bM kp0; have kp1 := keep bM kp1; have BB := bl_trans BB bM; have u0 := keep bM u0; have u1 := keep bM u1; have u2 := keep bM u2; have u3 := keep bM u3; clear hb bM) | go_values | go_skip | go_guarded | go_step | go_upon | go_back | dsimp only))
  generalize (w3.alloc (.cells #[.float .f64 0, .float .f64 0, .float .f64 0, .float .f64 0] 28)) = w4 at *
  generalize w3.heap.size = sb at *
  cases hfar : (withinK .f64 px 4787326403894837248 && withinK .f64 py 4787326403894837248)
  all_goals
    repeat (first | (have zn := tgA; clear zn tgA; go_at_call 11; (with_reducible refine (mAbout_any 0 0 0 0 px py _).mono ?_); rintro e w6 ⟨r2, k2, hA2, rfl, hb⟩; have h2 := aba_more hm ox ox op oq wa hA2; rw [hfar] at h2; (try simp only [Bool.false_eq_true, Bool.true_eq_false, false_and, or_false, false_or, true_and, reduceCtorEq, eq_self] at h2); (first | subst h2 | (obtain ⟨rfl, hlt⟩ := h2)); replace u0 := keep hb u0; replace u1 := keep hb u1; replace u2 := keep hb u2; replace u3 := keep hb u3; replace kp0 := keep hb kp0; replace kp1 := keep hb kp1; replace BB := bl_trans BB hb; clear hb; have tgB := True.intro) | (go_at_call 11; (with_reducible refine (mAbout_any 0 0 0 0 0 0 _).mono ?_); rintro e w5 ⟨r1, k1, hA1, rfl, hb⟩; obtain ⟨rfl, fa, wa, ea⟩ := aba_self hm ox ox hA1; replace u0 := keep hb u0; replace u1 := keep hb u1; replace u2 := keep hb u2; replace u3 := keep hb u3; replace kp0 := keep hb kp0; replace kp1 := keep hb kp1; replace BB := bl_trans BB hb; clear hb; have tgA := True.intro) | (go_at_call 12; (with_reducible refine (vWithin_any _ _ _ _).mono ?_); rintro e wz ⟨rfl, hb⟩; simp only [hfar]; replace u0 := keep hb u0; replace u1 := keep hb u1; replace u2 := keep hb u2; replace u3 := keep hb u3; replace kp0 := keep hb kp0; replace kp1 := keep hb kp1; replace BB := bl_trans BB hb; clear hb) | go_values | go_skip | go_guarded | go_step | go_upon | go_back | dsimp only)
    go_ret
    exact ⟨rfl, BB⟩
set_option maxRecDepth 100000 in
set_option maxHeartbeats 4000000 in
theorem about_many (a : Option Addr) (n cap : Nat) (px py : Nat) (w : World) (h : 64 < n) : Calls Try.prog 4 #[.slice a n cap, .agg #[.float .f64 px, .float .f64 py]] w fun e w' => e = .returned (.bool true) ∧ Bel w w' := by
  have h64I : (n : Int) > 64 := by omega
  have h64J : (64 : Int) < (n : Int) := by omega
  have B0 : Bel w (w.alloc (.cells #[.float .f64 px, .float .f64 py] 26)) := bl_alloc (bl_refl w) _ _
  go_enter Try.func4, Try.ntmps4
  repeat (first | (go_at_call 5; (with_reducible refine (alive8 _).mono ?_); rintro e w1 ⟨rfl, hb⟩; replace B0 := bl_trans B0 hb) | go_values | go_skip | go_guarded | go_step | go_upon | go_back | dsimp only)
  go_ret
  exact ⟨rfl, B0⟩
end Go.Proofs.Ytoofbfjlgablkaa
