/-
  What each function of package poly answers, and what the reference of its chapter answers: one contract a function, for every float: the answer stands in the relation of its formula to what was given; of the memory that was there nothing has turned.
-/
import Derived.Test.YtnbkjkbgfcpcfaaVec
import Derived.Test.YtnbkjkbgfcpcfaaMnb
import Derived.Below
import Derived.Laws.MakeOwn
import Derived.Laws.StructEq
import Derived.Deep.LoopGhost
import Derived.BigQuiet
import Derived.OwnWalk
import Derived.Laws.AppendOwn
import Derived.WalkKit
import Derived.WalkLawsBesides
import Derived.WalkSpells
import Derived.ProofKit
import Derived.OpenShut
import Derived.Deep.RegionHeld3
namespace Go.Proofs.Ytnbkjkbgfcpcfaa
open Go.ChangeShapes Go.WideShapes Go.ChangeAt Go.RowKit
set_option linter.unusedVariables false
set_option linter.unusedSimpArgs false


theorem ml_put {wr : World} {b k : Nat} (h : Ml wr b 0 k (fun _ => 4607182418800017408) (fun _ => 4607182418800017408) (fun _ => 4611686018427387904) (fun _ => 0)) (hs : ∀ q, q < 16385 * 4 → (wr.cell? ⟨b, q, none⟩).isSome = true) (hk : k < 16385) : Ml ((((wr.setCell ⟨b, k * 4, none⟩ (.float .f64 4607182418800017408)).setCell ⟨b, k * 4 + 1, none⟩ (.float .f64 4607182418800017408)).setCell ⟨b, k * 4 + 2, none⟩ (.float .f64 4611686018427387904)).setCell ⟨b, k * 4 + 3, none⟩ (.float .f64 0)) b 0 (k + 1) (fun _ => 4607182418800017408) (fun _ => 4607182418800017408) (fun _ => 4611686018427387904) (fun _ => 0) ∧ ∀ q, q < 16385 * 4 → (((((wr.setCell ⟨b, k * 4, none⟩ (.float .f64 4607182418800017408)).setCell ⟨b, k * 4 + 1, none⟩ (.float .f64 4607182418800017408)).setCell ⟨b, k * 4 + 2, none⟩ (.float .f64 4611686018427387904)).setCell ⟨b, k * 4 + 3, none⟩ (.float .f64 0)).cell? ⟨b, q, none⟩).isSome = true := by
  have e0 := hs (k * 4) (by omega)
  have e1 := hs (k * 4 + 1) (by omega)
  have e2 := hs (k * 4 + 2) (by omega)
  have e3 := hs (k * 4 + 3) (by omega)
  refine ⟨fun i hi => ?_, fun q hq => set_some (set_some (set_some (set_some (hs q hq))))⟩
  simp only [Nat.zero_add]
  by_cases hik : i = k
  · subst hik
    exact ⟨set_far (set_far (set_far (set_here (e0)) (.inr (by omega))) (.inr (by omega))) (.inr (by omega)), set_far (set_far (set_here (set_some (e1))) (.inr (by omega))) (.inr (by omega)), set_far (set_here (set_some (set_some (e2)))) (.inr (by omega)), set_here (set_some (set_some (set_some (e3))))⟩
  · obtain ⟨h0, h1, h2, h3⟩ := h i (by omega)
    simp only [Nat.zero_add] at h0 h1 h2 h3
    exact ⟨set_far (set_far (set_far (set_far (h0) (.inr (by omega))) (.inr (by omega))) (.inr (by omega))) (.inr (by omega)), set_far (set_far (set_far (set_far (h1) (.inr (by omega))) (.inr (by omega))) (.inr (by omega))) (.inr (by omega)), set_far (set_far (set_far (set_far (h2) (.inr (by omega))) (.inr (by omega))) (.inr (by omega))) (.inr (by omega)), set_far (set_far (set_far (set_far (h3) (.inr (by omega))) (.inr (by omega))) (.inr (by omega))) (.inr (by omega))⟩

theorem pl_put {wr : World} {b k g : Nat} (h : Pl wr b k g) (hs : ∀ q, q < 9 * 9 → (wr.cell? ⟨b, q, none⟩).isSome = true) (hk : k < 9) : Pl (((((((((wr.setCell ⟨b, k * 9, none⟩ (.int .u8 1)).setCell ⟨b, k * 9 + 1, none⟩ (.float .f64 4607182418800017408)).setCell ⟨b, k * 9 + 2, none⟩ (.slice (some ⟨g, 0, none⟩) 1 1)).setCell ⟨b, k * 9 + 3, none⟩ (.float .f64 4607182418800017408)).setCell ⟨b, k * 9 + 4, none⟩ (.float .f64 0)).setCell ⟨b, k * 9 + 5, none⟩ (.float .f64 0)).setCell ⟨b, k * 9 + 6, none⟩ (.bool false)).setCell ⟨b, k * 9 + 7, none⟩ (.int .u16 0)).setCell ⟨b, k * 9 + 8, none⟩ (.int .u16 0)) b (k + 1) g ∧ ∀ q, q < 9 * 9 → ((((((((((wr.setCell ⟨b, k * 9, none⟩ (.int .u8 1)).setCell ⟨b, k * 9 + 1, none⟩ (.float .f64 4607182418800017408)).setCell ⟨b, k * 9 + 2, none⟩ (.slice (some ⟨g, 0, none⟩) 1 1)).setCell ⟨b, k * 9 + 3, none⟩ (.float .f64 4607182418800017408)).setCell ⟨b, k * 9 + 4, none⟩ (.float .f64 0)).setCell ⟨b, k * 9 + 5, none⟩ (.float .f64 0)).setCell ⟨b, k * 9 + 6, none⟩ (.bool false)).setCell ⟨b, k * 9 + 7, none⟩ (.int .u16 0)).setCell ⟨b, k * 9 + 8, none⟩ (.int .u16 0)).cell? ⟨b, q, none⟩).isSome = true := by
  have e0 := hs (k * 9) (by omega)
  have e1 := hs (k * 9 + 1) (by omega)
  have e2 := hs (k * 9 + 2) (by omega)
  have e3 := hs (k * 9 + 3) (by omega)
  have e4 := hs (k * 9 + 4) (by omega)
  have e5 := hs (k * 9 + 5) (by omega)
  have e6 := hs (k * 9 + 6) (by omega)
  have e7 := hs (k * 9 + 7) (by omega)
  have e8 := hs (k * 9 + 8) (by omega)
  refine ⟨fun i hi => ?_, fun q hq => set_some (set_some (set_some (set_some (set_some (set_some (set_some (set_some (set_some (hs q hq)))))))))⟩
  by_cases hik : i = k
  · subst hik
    exact ⟨set_far (set_far (set_far (set_far (set_far (set_far (set_far (set_far (set_here (e0)) (.inr (by omega))) (.inr (by omega))) (.inr (by omega))) (.inr (by omega))) (.inr (by omega))) (.inr (by omega))) (.inr (by omega))) (.inr (by omega)), set_far (set_far (set_far (set_far (set_far (set_far (set_far (set_here (set_some (e1))) (.inr (by omega))) (.inr (by omega))) (.inr (by omega))) (.inr (by omega))) (.inr (by omega))) (.inr (by omega))) (.inr (by omega)), set_far (set_far (set_far (set_far (set_far (set_far (set_here (set_some (set_some (e2)))) (.inr (by omega))) (.inr (by omega))) (.inr (by omega))) (.inr (by omega))) (.inr (by omega))) (.inr (by omega)), set_far (set_far (set_far (set_far (set_far (set_here (set_some (set_some (set_some (e3))))) (.inr (by omega))) (.inr (by omega))) (.inr (by omega))) (.inr (by omega))) (.inr (by omega)), set_far (set_far (set_far (set_far (set_here (set_some (set_some (set_some (set_some (e4)))))) (.inr (by omega))) (.inr (by omega))) (.inr (by omega))) (.inr (by omega)), set_far (set_far (set_far (set_here (set_some (set_some (set_some (set_some (set_some (e5))))))) (.inr (by omega))) (.inr (by omega))) (.inr (by omega)), set_far (set_far (set_here (set_some (set_some (set_some (set_some (set_some (set_some (e6)))))))) (.inr (by omega))) (.inr (by omega)), set_far (set_here (set_some (set_some (set_some (set_some (set_some (set_some (set_some (e7))))))))) (.inr (by omega)), set_here (set_some (set_some (set_some (set_some (set_some (set_some (set_some (set_some (e8)))))))))⟩
  · obtain ⟨h0, h1, h2, h3, h4, h5, h6, h7, h8⟩ := h i (by omega)
    exact ⟨set_far (set_far (set_far (set_far (set_far (set_far (set_far (set_far (set_far (h0) (.inr (by omega))) (.inr (by omega))) (.inr (by omega))) (.inr (by omega))) (.inr (by omega))) (.inr (by omega))) (.inr (by omega))) (.inr (by omega))) (.inr (by omega)), set_far (set_far (set_far (set_far (set_far (set_far (set_far (set_far (set_far (h1) (.inr (by omega))) (.inr (by omega))) (.inr (by omega))) (.inr (by omega))) (.inr (by omega))) (.inr (by omega))) (.inr (by omega))) (.inr (by omega))) (.inr (by omega)), set_far (set_far (set_far (set_far (set_far (set_far (set_far (set_far (set_far (h2) (.inr (by omega))) (.inr (by omega))) (.inr (by omega))) (.inr (by omega))) (.inr (by omega))) (.inr (by omega))) (.inr (by omega))) (.inr (by omega))) (.inr (by omega)), set_far (set_far (set_far (set_far (set_far (set_far (set_far (set_far (set_far (h3) (.inr (by omega))) (.inr (by omega))) (.inr (by omega))) (.inr (by omega))) (.inr (by omega))) (.inr (by omega))) (.inr (by omega))) (.inr (by omega))) (.inr (by omega)), set_far (set_far (set_far (set_far (set_far (set_far (set_far (set_far (set_far (h4) (.inr (by omega))) (.inr (by omega))) (.inr (by omega))) (.inr (by omega))) (.inr (by omega))) (.inr (by omega))) (.inr (by omega))) (.inr (by omega))) (.inr (by omega)), set_far (set_far (set_far (set_far (set_far (set_far (set_far (set_far (set_far (h5) (.inr (by omega))) (.inr (by omega))) (.inr (by omega))) (.inr (by omega))) (.inr (by omega))) (.inr (by omega))) (.inr (by omega))) (.inr (by omega))) (.inr (by omega)), set_far (set_far (set_far (set_far (set_far (set_far (set_far (set_far (set_far (h6) (.inr (by omega))) (.inr (by omega))) (.inr (by omega))) (.inr (by omega))) (.inr (by omega))) (.inr (by omega))) (.inr (by omega))) (.inr (by omega))) (.inr (by omega)), set_far (set_far (set_far (set_far (set_far (set_far (set_far (set_far (set_far (h7) (.inr (by omega))) (.inr (by omega))) (.inr (by omega))) (.inr (by omega))) (.inr (by omega))) (.inr (by omega))) (.inr (by omega))) (.inr (by omega))) (.inr (by omega)), set_far (set_far (set_far (set_far (set_far (set_far (set_far (set_far (set_far (h8) (.inr (by omega))) (.inr (by omega))) (.inr (by omega))) (.inr (by omega))) (.inr (by omega))) (.inr (by omega))) (.inr (by omega))) (.inr (by omega))) (.inr (by omega))⟩

theorem join_over {ms js xs ys : Nat → Nat} {m j x y : Nat} {e : Int} (h : JoinA ms js xs ys 16385 AboutR m j x y e) : m = 0 ∧ j = 0 ∧ x = 0 ∧ y = 0 ∧ e = 4 := by
  rcases h with ⟨_, h⟩ | ⟨h, _⟩ | ⟨h, _⟩ | ⟨h, _⟩ | ⟨_, h, _⟩
  · exact h
  all_goals omega
theorem parts_nine (a : Option Addr) (cap : Nat) (w : World) : Calls Try.prog 26 #[.slice a 9 cap] w fun e w' => e = .returned (.tuple #[.agg #[.float .f64 0, .float .f64 0, .float .f64 0, .float .f64 0], .int .i64 4]) ∧ Bel w w' := by
  go_enter Try.func26, Try.ntmps26
  go_wp2
  refine bodyPost_ret (v := .tuple #[.agg #[.float .f64 0, .float .f64 0, .float .f64 0, .float .f64 0], .int .i64 4]) (by simp [results, Try.results26, go_sem] <;> (first | exact ⟨⟨rfl, rfl, rfl, rfl⟩, rfl⟩ | exact ⟨rfl, rfl, rfl, rfl, rfl⟩ | exact ⟨rfl, rfl⟩ | rfl)) rfl ⟨rfl, ?_⟩
  repeat (first | exact bl_refl _ | assumption | apply bl_drewN | apply bl_drew | apply bl_alloc | refine bl_set ?_ (by simp <;> omega) | refine bl_trans ?_ (by assumption))
set_option maxRecDepth 100000 in
set_option maxHeartbeats 32000000 in
theorem names8 (w : World) : Calls Try.prog 5 #[] w fun e w' => e = .returned (.bool true) ∧ Bel w w' := by
  have hmk : ∀ W, (Instr.makeSlice 49 (.int .i64 16385) (.int .i64 16385)).run Try.prog W = .ok (.slice (some ⟨W.heap.size, 0, none⟩) 16385 16385) (W.alloc (.cells (madeCells #[.float .f64 0, .float .f64 0, .float .f64 0, .float .f64 0] (16385 * 4)) 51)) := fun W => make_mass 16385 (by decide) W
  have hmp := make_parts
  go_enter Try.func5, Try.ntmps5
  go_wp2_with (first | (go_at_call 23; (with_reducible refine (alive8 _).mono ?_); rintro e w1 ⟨rfl, hb1⟩))
  have hsm := made_mass w1 51 16385
  have B1 := bl_alloc hb1 (madeCells #[.float .f64 0, .float .f64 0, .float .f64 0, .float .f64 0] (16385 * 4)) 51
  have lw := hb1.size
  have z1 : ∀ o, (w1.alloc (.cells (madeCells #[.float .f64 0, .float .f64 0, .float .f64 0, .float .f64 0] (16385 * 4)) 51)).frozen? ⟨w1.heap.size, o, none⟩ = false := fun o => fz_alloc (fresh_frozen (Nat.le_refl _))
  obtain ⟨Wm, hWm⟩ : ∃ W, W = (w1.alloc (.cells (madeCells #[.float .f64 0, .float .f64 0, .float .f64 0, .float .f64 0] (16385 * 4)) 51)) := ⟨_, rfl⟩
  rw [← hWm] at hsm B1 z1 ⊢
  clear hWm
  obtain ⟨b, hb0⟩ : ∃ b, b = w1.heap.size := ⟨_, rfl⟩
  rw [← hb0] at hsm z1 lw ⊢
  clear hb0 hb1
  go_loopg [3] 16385 (fun kx s3 wr => ∃ k : Nat, s3 = .int .i64 k ∧ k ≤ 16385 ∧ 16385 - k ≤ kx ∧ Ml wr b 0 k (fun _ => 4607182418800017408) (fun _ => 4607182418800017408) (fun _ => 4611686018427387904) (fun _ => 0) ∧ (∀ q, q < 16385 * 4 → (wr.cell? ⟨b, q, none⟩).isSome = true) ∧ (∀ o, wr.frozen? ⟨b, o, none⟩ = false) ∧ Bel w wr)
  case atStart => exact ⟨0, rfl, by omega, by omega, fun i hi => by omega, hsm, z1, B1⟩
  case round =>
    obtain ⟨k, rfl, hkn, hkx, hM, hs, hz, hW⟩ := hrel
    clear hsm B1 z1
    by_cases hlt : k < 16385
    · have hkz : (k : Int) < 16385 := by omega
      obtain ⟨v0, c0⟩ := Option.isSome_iff_exists.1 (hs (k * 4) (by omega))
      obtain ⟨v1, c1⟩ := Option.isSome_iff_exists.1 (hs (k * 4 + 1) (by omega))
      obtain ⟨v2, c2⟩ := Option.isSome_iff_exists.1 (hs (k * 4 + 2) (by omega))
      obtain ⟨v3, c3⟩ := Option.isSome_iff_exists.1 (hs (k * 4 + 3) (by omega))
      have pl := ml_put hM hs hlt
      go_wp2
      go_roundg (16385 - (k + 1))
      case measure => omega
      case rel => exact ⟨k + 1, by go_num, by omega, by omega, pl.1, pl.2, fun o => by simp only [World.frozen?_setCell]; exact hz o, bl_set (bl_set (bl_set (bl_set hW lw) lw) lw) lw⟩
    · have hk : k = 16385 := by omega
      subst hk
      have hM1 : Ml wr b 0 16384 (fun _ => 4607182418800017408) (fun _ => 4607182418800017408) (fun _ => 4611686018427387904) (fun _ => 0) := fun i hi => hM i (by omega)
      have hM2 := hM
      have B1 := hW
      clear hM hs hz hW
      go_wp2_with (first | (go_at_call 24; (with_reducible refine (join_some _ _ 16384 16385 _ _ _ _ _ hM1 (by decide) (by decide) (by decide)).mono ?_); rintro e w3 ⟨m, j, x, y, f, hJ, rfl, hb⟩; obtain ⟨rfl, rfl, rfl, rfl, rfl⟩ := join_many hJ; clear hJ; replace hM2 := hM2.bel hb; replace B1 := bl_trans B1 hb; clear hb; have A0 : (w3.alloc (.cells #[.float .f64 4670232813583204352, .float .f64 4670232813583204352, .float .f64 4611686018427387904, .float .f64 0] 51)).cell? ⟨w3.heap.size, 0, none⟩ = some (.float .f64 4670232813583204352) := (by rw [World.cell?_alloc_new]; rfl); have A1 : (w3.alloc (.cells #[.float .f64 4670232813583204352, .float .f64 4670232813583204352, .float .f64 4611686018427387904, .float .f64 0] 51)).cell? ⟨w3.heap.size, 1, none⟩ = some (.float .f64 4670232813583204352) := (by rw [World.cell?_alloc_new]; rfl); have A2 : (w3.alloc (.cells #[.float .f64 4670232813583204352, .float .f64 4670232813583204352, .float .f64 4611686018427387904, .float .f64 0] 51)).cell? ⟨w3.heap.size, 2, none⟩ = some (.float .f64 4611686018427387904) := (by rw [World.cell?_alloc_new]; rfl); have A3 : (w3.alloc (.cells #[.float .f64 4670232813583204352, .float .f64 4670232813583204352, .float .f64 4611686018427387904, .float .f64 0] 51)).cell? ⟨w3.heap.size, 3, none⟩ = some (.float .f64 0) := (by rw [World.cell?_alloc_new]; rfl); replace hM2 := hM2.bel (bl_alloc (bl_refl w3) #[.float .f64 4670232813583204352, .float .f64 4670232813583204352, .float .f64 4611686018427387904, .float .f64 0] 51); replace B1 := bl_alloc B1 #[.float .f64 4670232813583204352, .float .f64 4670232813583204352, .float .f64 4611686018427387904, .float .f64 0] 51) | (go_at_call 24; (with_reducible refine (join_some _ _ 16385 16385 _ _ _ _ _ hM2 (by decide) (by decide) (by decide)).mono ?_); rintro e w4 ⟨m, j, x, y, f, hJ, rfl, hb⟩; obtain ⟨rfl, rfl, rfl, rfl, rfl⟩ := join_over hJ; clear hJ; replace A0 := keep hb A0; replace A1 := keep hb A1; replace A2 := keep hb A2; replace A3 := keep hb A3; replace B1 := bl_trans B1 hb; clear hb; replace A0 := up_alloc (o := .cells #[.float .f64 0, .float .f64 0, .float .f64 0, .float .f64 0] 51) A0; replace A1 := up_alloc (o := .cells #[.float .f64 0, .float .f64 0, .float .f64 0, .float .f64 0] 51) A1; replace A2 := up_alloc (o := .cells #[.float .f64 0, .float .f64 0, .float .f64 0, .float .f64 0] 51) A2; replace A3 := up_alloc (o := .cells #[.float .f64 0, .float .f64 0, .float .f64 0, .float .f64 0] 51) A3; replace B1 := bl_alloc B1 #[.float .f64 0, .float .f64 0, .float .f64 0, .float .f64 0] 51) | (go_at_call 25; (with_reducible refine (lcirc_any _ _).mono ?_); rintro e w5 ⟨g, rfl, hb, hC⟩; replace A0 := keep hb A0; replace A1 := keep hb A1; replace A2 := keep hb A2; replace A3 := keep hb A3; replace B1 := bl_trans B1 hb; clear hb; have O0 : (w5.alloc (.cells #[.int .u8 1, .float .f64 4607182418800017408, .slice (some ⟨g, 0, none⟩) 1 1, .float .f64 4607182418800017408, .float .f64 0, .float .f64 0, .bool false, .int .u16 0, .int .u16 0] 57)).cell? ⟨w5.heap.size, 0, none⟩ = some (.int .u8 1) := (by rw [World.cell?_alloc_new]; rfl); have O1 : (w5.alloc (.cells #[.int .u8 1, .float .f64 4607182418800017408, .slice (some ⟨g, 0, none⟩) 1 1, .float .f64 4607182418800017408, .float .f64 0, .float .f64 0, .bool false, .int .u16 0, .int .u16 0] 57)).cell? ⟨w5.heap.size, 1, none⟩ = some (.float .f64 4607182418800017408) := (by rw [World.cell?_alloc_new]; rfl); have O2 : (w5.alloc (.cells #[.int .u8 1, .float .f64 4607182418800017408, .slice (some ⟨g, 0, none⟩) 1 1, .float .f64 4607182418800017408, .float .f64 0, .float .f64 0, .bool false, .int .u16 0, .int .u16 0] 57)).cell? ⟨w5.heap.size, 2, none⟩ = some (.slice (some ⟨g, 0, none⟩) 1 1) := (by rw [World.cell?_alloc_new]; rfl); have O3 : (w5.alloc (.cells #[.int .u8 1, .float .f64 4607182418800017408, .slice (some ⟨g, 0, none⟩) 1 1, .float .f64 4607182418800017408, .float .f64 0, .float .f64 0, .bool false, .int .u16 0, .int .u16 0] 57)).cell? ⟨w5.heap.size, 3, none⟩ = some (.float .f64 4607182418800017408) := (by rw [World.cell?_alloc_new]; rfl); have O4 : (w5.alloc (.cells #[.int .u8 1, .float .f64 4607182418800017408, .slice (some ⟨g, 0, none⟩) 1 1, .float .f64 4607182418800017408, .float .f64 0, .float .f64 0, .bool false, .int .u16 0, .int .u16 0] 57)).cell? ⟨w5.heap.size, 4, none⟩ = some (.float .f64 0) := (by rw [World.cell?_alloc_new]; rfl); have O5 : (w5.alloc (.cells #[.int .u8 1, .float .f64 4607182418800017408, .slice (some ⟨g, 0, none⟩) 1 1, .float .f64 4607182418800017408, .float .f64 0, .float .f64 0, .bool false, .int .u16 0, .int .u16 0] 57)).cell? ⟨w5.heap.size, 5, none⟩ = some (.float .f64 0) := (by rw [World.cell?_alloc_new]; rfl); have O6 : (w5.alloc (.cells #[.int .u8 1, .float .f64 4607182418800017408, .slice (some ⟨g, 0, none⟩) 1 1, .float .f64 4607182418800017408, .float .f64 0, .float .f64 0, .bool false, .int .u16 0, .int .u16 0] 57)).cell? ⟨w5.heap.size, 6, none⟩ = some (.bool false) := (by rw [World.cell?_alloc_new]; rfl); have O7 : (w5.alloc (.cells #[.int .u8 1, .float .f64 4607182418800017408, .slice (some ⟨g, 0, none⟩) 1 1, .float .f64 4607182418800017408, .float .f64 0, .float .f64 0, .bool false, .int .u16 0, .int .u16 0] 57)).cell? ⟨w5.heap.size, 7, none⟩ = some (.int .u16 0) := (by rw [World.cell?_alloc_new]; rfl); have O8 : (w5.alloc (.cells #[.int .u8 1, .float .f64 4607182418800017408, .slice (some ⟨g, 0, none⟩) 1 1, .float .f64 4607182418800017408, .float .f64 0, .float .f64 0, .bool false, .int .u16 0, .int .u16 0] 57)).cell? ⟨w5.heap.size, 8, none⟩ = some (.int .u16 0) := (by rw [World.cell?_alloc_new]; rfl); replace A0 := up_alloc (o := .cells #[.int .u8 1, .float .f64 4607182418800017408, .slice (some ⟨g, 0, none⟩) 1 1, .float .f64 4607182418800017408, .float .f64 0, .float .f64 0, .bool false, .int .u16 0, .int .u16 0] 57) A0; replace A1 := up_alloc (o := .cells #[.int .u8 1, .float .f64 4607182418800017408, .slice (some ⟨g, 0, none⟩) 1 1, .float .f64 4607182418800017408, .float .f64 0, .float .f64 0, .bool false, .int .u16 0, .int .u16 0] 57) A1; replace A2 := up_alloc (o := .cells #[.int .u8 1, .float .f64 4607182418800017408, .slice (some ⟨g, 0, none⟩) 1 1, .float .f64 4607182418800017408, .float .f64 0, .float .f64 0, .bool false, .int .u16 0, .int .u16 0] 57) A2; replace A3 := up_alloc (o := .cells #[.int .u8 1, .float .f64 4607182418800017408, .slice (some ⟨g, 0, none⟩) 1 1, .float .f64 4607182418800017408, .float .f64 0, .float .f64 0, .bool false, .int .u16 0, .int .u16 0] 57) A3; replace hC := hC.bel (bl_alloc (bl_refl w5) #[.int .u8 1, .float .f64 4607182418800017408, .slice (some ⟨g, 0, none⟩) 1 1, .float .f64 4607182418800017408, .float .f64 0, .float .f64 0, .bool false, .int .u16 0, .int .u16 0] 57); replace B1 := bl_alloc B1 #[.int .u8 1, .float .f64 4607182418800017408, .slice (some ⟨g, 0, none⟩) 1 1, .float .f64 4607182418800017408, .float .f64 0, .float .f64 0, .bool false, .int .u16 0, .int .u16 0] 57; have stop5 := True.intro))
      clear stop5 hM1 hM2
      have hsz5 : (w5.alloc (.cells #[.int .u8 1, .float .f64 4607182418800017408, .slice (some ⟨g, 0, none⟩) 1 1, .float .f64 4607182418800017408, .float .f64 0, .float .f64 0, .bool false, .int .u16 0, .int .u16 0] 57)).heap.size = w5.heap.size + 1 := World.size_alloc ..
      obtain ⟨Wp, hWp⟩ : ∃ W, W = (w5.alloc (.cells #[.int .u8 1, .float .f64 4607182418800017408, .slice (some ⟨g, 0, none⟩) 1 1, .float .f64 4607182418800017408, .float .f64 0, .float .f64 0, .bool false, .int .u16 0, .int .u16 0] 57)) := ⟨_, rfl⟩
      rw [← hWp] at A0 A1 A2 A3 O0 O1 O2 O3 O4 O5 O6 O7 O8 hC B1 hsz5 ⊢
      clear hWp
      obtain ⟨p8, hp8⟩ : ∃ p, p = w5.heap.size := ⟨_, rfl⟩
      rw [← hp8] at O0 O1 O2 O3 O4 O5 O6 O7 O8 hsz5 ⊢
      clear hp8
      have hsp := made_parts Wp 57
      have lp := B1.size
      have z2 : ∀ o, (Wp.alloc (.cells (madeCells #[.int .u8 0, .float .f64 0, .slice none 0 0, .float .f64 0, .float .f64 0, .float .f64 0, .bool false, .int .u16 0, .int .u16 0] (9 * 9)) 57)).frozen? ⟨Wp.heap.size, o, none⟩ = false := fun o => fz_alloc (fresh_frozen (Nat.le_refl _))
      have BQ := bl_alloc (bl_refl Wp) (madeCells #[.int .u8 0, .float .f64 0, .slice none 0 0, .float .f64 0, .float .f64 0, .float .f64 0, .bool false, .int .u16 0, .int .u16 0] (9 * 9)) 57
      obtain ⟨Wq, hWq⟩ : ∃ W, W = (Wp.alloc (.cells (madeCells #[.int .u8 0, .float .f64 0, .slice none 0 0, .float .f64 0, .float .f64 0, .float .f64 0, .bool false, .int .u16 0, .int .u16 0] (9 * 9)) 57)) := ⟨_, rfl⟩
      rw [← hWq] at hsp z2 BQ ⊢
      clear hWq
      have lq : Wp.heap.size ≤ Wp.heap.size := Nat.le_refl _
      rw [hsz5] at hsp z2
      obtain ⟨bp, hbp⟩ : ∃ p, p = p8 + 1 := ⟨_, rfl⟩
      have lbp : Wp.heap.size ≤ bp := by omega
      rw [← hbp] at hsp z2 ⊢
      clear hbp lq hsz5
      go_loopg [10] 9 (fun kx s10 wv => ∃ k : Nat, s10 = .int .i64 k ∧ k ≤ 9 ∧ 9 - k ≤ kx ∧ Pl wv bp k g ∧ (∀ q, q < 9 * 9 → (wv.cell? ⟨bp, q, none⟩).isSome = true) ∧ (∀ o, wv.frozen? ⟨bp, o, none⟩ = false) ∧ Bel Wp wv)
      case atStart => exact ⟨0, rfl, by omega, by omega, fun i hi => by omega, hsp, z2, BQ⟩
      case round =>
        obtain ⟨k, rfl, hkn, hkx, hP, hs, hz, hW⟩ := hrel
        clear hsp z2 BQ
        by_cases hlt : k < 9
        · have hkz : (k : Int) < 9 := by omega
          obtain ⟨v0, c0⟩ := Option.isSome_iff_exists.1 (hs (k * 9) (by omega))
          obtain ⟨v1, c1⟩ := Option.isSome_iff_exists.1 (hs (k * 9 + 1) (by omega))
          obtain ⟨v2, c2⟩ := Option.isSome_iff_exists.1 (hs (k * 9 + 2) (by omega))
          obtain ⟨v3, c3⟩ := Option.isSome_iff_exists.1 (hs (k * 9 + 3) (by omega))
          obtain ⟨v4, c4⟩ := Option.isSome_iff_exists.1 (hs (k * 9 + 4) (by omega))
          obtain ⟨v5, c5⟩ := Option.isSome_iff_exists.1 (hs (k * 9 + 5) (by omega))
          obtain ⟨v6, c6⟩ := Option.isSome_iff_exists.1 (hs (k * 9 + 6) (by omega))
          obtain ⟨v7, c7⟩ := Option.isSome_iff_exists.1 (hs (k * 9 + 7) (by omega))
          obtain ⟨v8, c8⟩ := Option.isSome_iff_exists.1 (hs (k * 9 + 8) (by omega))
          have t0 := keep hW O0
          have t1 := keep hW O1
          have t2 := keep hW O2
          have t3 := keep hW O3
          have t4 := keep hW O4
          have t5 := keep hW O5
          have t6 := keep hW O6
          have t7 := keep hW O7
          have t8 := keep hW O8
          have pl := pl_put hP hs hlt
          go_wp2
          go_roundg (9 - (k + 1))
          case measure => omega
          case rel => exact ⟨k + 1, by go_num, by omega, by omega, pl.1, pl.2, fun o => by simp only [World.frozen?_setCell]; exact hz o, bl_set (bl_set (bl_set (bl_set (bl_set (bl_set (bl_set (bl_set (bl_set (hW) lbp) lbp) lbp) lbp) lbp) lbp) lbp) lbp) lbp⟩
        · have hk : k = 9 := by omega
          subst hk
          have hP1 : Pl wr bp 8 g := fun i hi => hP i (by omega)
          replace hC := hC.bel hW
          replace A0 := keep hW A0; replace A1 := keep hW A1; replace A2 := keep hW A2; replace A3 := keep hW A3
          replace B1 := bl_trans B1 hW
          clear hP hs hz hW O0 O1 O2 O3 O4 O5 O6 O7 O8 lbp
          have q0 := cmp_eq .f64
          have qg := cmp_gt .f64
          have ql := cmp_lt .f64
          have q1 := fun (x y : Nat) (w : World) => run_equalIn_float Try.prog w 31 .f64 x y Try.underlying31
          have q3 := fun (d x y : Nat) (w : World) => run_equalIn_fl Try.prog w d 31 .f64 x y Try.underlying31
          have q4 := fun (x y : Nat) (w : World) => run_equalIn_fl Try.prog w 9997 31 .f64 x y Try.underlying31
          have q5 := fun (x y : Nat) (w : World) => run_equalIn_fl Try.prog w 9996 31 .f64 x y Try.underlying31
          have e0 : eqK .f64 0 0 = true := by decide +kernel
          have e1 : eqK .f64 4611686018427387904 4611686018427387904 = true := by decide +kernel
          have e2 : eqK .f64 4670232813583204352 4670232813583204352 = true := by decide +kernel
          have g1 : ltK .f64 4627730092099895296 4627767455434157336 = true := by decide +kernel
          have g2 : ltK .f64 4627767455434157336 4628011567076605952 = true := by decide +kernel
          go_wp2_with (first | (go_at_call 26; (with_reducible refine (parts_n _ 8 9 g _ hP1 hC (by decide) (by decide)).mono ?_); rintro e w6 ⟨m, j, x, y, f, hJ, rfl, hb⟩; obtain ⟨rfl, rfl, rfl, rfl, rfl⟩ := join_eight hJ; clear hJ; replace A0 := keep hb A0; replace A1 := keep hb A1; replace A2 := keep hb A2; replace A3 := keep hb A3; replace B1 := bl_trans B1 hb; clear hb; have D0 : (w6.alloc (.cells #[.float .f64 4627767455434157336, .float .f64 4623263855806786840, .float .f64 0, .float .f64 0] 51)).cell? ⟨w6.heap.size, 0, none⟩ = some (.float .f64 4627767455434157336) := (by rw [World.cell?_alloc_new]; rfl); have D1 : (w6.alloc (.cells #[.float .f64 4627767455434157336, .float .f64 4623263855806786840, .float .f64 0, .float .f64 0] 51)).cell? ⟨w6.heap.size, 1, none⟩ = some (.float .f64 4623263855806786840) := (by rw [World.cell?_alloc_new]; rfl); have D2 : (w6.alloc (.cells #[.float .f64 4627767455434157336, .float .f64 4623263855806786840, .float .f64 0, .float .f64 0] 51)).cell? ⟨w6.heap.size, 2, none⟩ = some (.float .f64 0) := (by rw [World.cell?_alloc_new]; rfl); have D3 : (w6.alloc (.cells #[.float .f64 4627767455434157336, .float .f64 4623263855806786840, .float .f64 0, .float .f64 0] 51)).cell? ⟨w6.heap.size, 3, none⟩ = some (.float .f64 0) := (by rw [World.cell?_alloc_new]; rfl); replace A0 := up_alloc (o := .cells #[.float .f64 4627767455434157336, .float .f64 4623263855806786840, .float .f64 0, .float .f64 0] 51) A0; replace A1 := up_alloc (o := .cells #[.float .f64 4627767455434157336, .float .f64 4623263855806786840, .float .f64 0, .float .f64 0] 51) A1; replace A2 := up_alloc (o := .cells #[.float .f64 4627767455434157336, .float .f64 4623263855806786840, .float .f64 0, .float .f64 0] 51) A2; replace A3 := up_alloc (o := .cells #[.float .f64 4627767455434157336, .float .f64 4623263855806786840, .float .f64 0, .float .f64 0] 51) A3; replace B1 := bl_alloc B1 #[.float .f64 4627767455434157336, .float .f64 4623263855806786840, .float .f64 0, .float .f64 0] 51) | (go_at_call 26; (with_reducible refine (parts_nine _ _ _).mono ?_); rintro e w7 ⟨rfl, hb⟩; replace A0 := keep hb A0; replace A1 := keep hb A1; replace A2 := keep hb A2; replace A3 := keep hb A3; replace D0 := keep hb D0; replace D1 := keep hb D1; replace D2 := keep hb D2; replace D3 := keep hb D3; replace B1 := bl_trans B1 hb; clear hb; replace A0 := up_alloc (o := .cells #[.float .f64 0, .float .f64 0, .float .f64 0, .float .f64 0] 51) A0; replace A1 := up_alloc (o := .cells #[.float .f64 0, .float .f64 0, .float .f64 0, .float .f64 0] 51) A1; replace A2 := up_alloc (o := .cells #[.float .f64 0, .float .f64 0, .float .f64 0, .float .f64 0] 51) A2; replace A3 := up_alloc (o := .cells #[.float .f64 0, .float .f64 0, .float .f64 0, .float .f64 0] 51) A3; replace D0 := up_alloc (o := .cells #[.float .f64 0, .float .f64 0, .float .f64 0, .float .f64 0] 51) D0; replace D1 := up_alloc (o := .cells #[.float .f64 0, .float .f64 0, .float .f64 0, .float .f64 0] 51) D1; replace D2 := up_alloc (o := .cells #[.float .f64 0, .float .f64 0, .float .f64 0, .float .f64 0] 51) D2; replace D3 := up_alloc (o := .cells #[.float .f64 0, .float .f64 0, .float .f64 0, .float .f64 0] 51) D3; replace B1 := bl_alloc B1 #[.float .f64 0, .float .f64 0, .float .f64 0, .float .f64 0] 51) | (go_at_call 25; (with_reducible refine (lcirc_any _ _).mono ?_); rintro e w8 ⟨g8, rfl, hb, hC8⟩; replace A0 := keep hb A0; replace A1 := keep hb A1; replace A2 := keep hb A2; replace A3 := keep hb A3; replace D0 := keep hb D0; replace D1 := keep hb D1; replace D2 := keep hb D2; replace D3 := keep hb D3; replace B1 := bl_trans B1 hb; clear hb) | (go_at_call 27; (with_reducible refine (of_any _ 1 nX0 nX0 1 4607182418800017408 4787326403894837248 _ hC8 (by rw [okK64]; decide)).mono ?_); rintro e w9 ⟨m, j, x, y, f, hOf, rfl, hb⟩; obtain ⟨rfl, rfl, rfl, rfl, rfl⟩ := big_ev hOf; clear hOf hC8; replace A0 := keep hb A0; replace A1 := keep hb A1; replace A2 := keep hb A2; replace A3 := keep hb A3; replace D0 := keep hb D0; replace D1 := keep hb D1; replace D2 := keep hb D2; replace D3 := keep hb D3; replace B1 := bl_trans B1 hb; clear hb; replace A0 := up_alloc (o := .cells #[.float .f64 4794400641646865688, .float .f64 4789897042019495192, .float .f64 0, .float .f64 0] 51) A0; replace A1 := up_alloc (o := .cells #[.float .f64 4794400641646865688, .float .f64 4789897042019495192, .float .f64 0, .float .f64 0] 51) A1; replace A2 := up_alloc (o := .cells #[.float .f64 4794400641646865688, .float .f64 4789897042019495192, .float .f64 0, .float .f64 0] 51) A2; replace A3 := up_alloc (o := .cells #[.float .f64 4794400641646865688, .float .f64 4789897042019495192, .float .f64 0, .float .f64 0] 51) A3; replace D0 := up_alloc (o := .cells #[.float .f64 4794400641646865688, .float .f64 4789897042019495192, .float .f64 0, .float .f64 0] 51) D0; replace D1 := up_alloc (o := .cells #[.float .f64 4794400641646865688, .float .f64 4789897042019495192, .float .f64 0, .float .f64 0] 51) D1; replace D2 := up_alloc (o := .cells #[.float .f64 4794400641646865688, .float .f64 4789897042019495192, .float .f64 0, .float .f64 0] 51) D2; replace D3 := up_alloc (o := .cells #[.float .f64 4794400641646865688, .float .f64 4789897042019495192, .float .f64 0, .float .f64 0] 51) D3; replace B1 := bl_alloc B1 #[.float .f64 4794400641646865688, .float .f64 4789897042019495192, .float .f64 0, .float .f64 0] 51) | (go_at_call 27; (with_reducible refine (of_any _ 1 nX0 nX0 1 4607182418800017408 4787326403894841344 _ hC8 (by rw [okK64]; decide)).mono ?_); rintro e w9 ⟨m, j, x, y, f, hOf, rfl, hb⟩; obtain ⟨rfl, rfl, rfl, rfl, rfl⟩ := more_ev hOf; clear hOf hC8; replace A0 := keep hb A0; replace A1 := keep hb A1; replace A2 := keep hb A2; replace A3 := keep hb A3; replace D0 := keep hb D0; replace D1 := keep hb D1; replace D2 := keep hb D2; replace D3 := keep hb D3; replace B1 := bl_trans B1 hb; clear hb; replace A0 := up_alloc (o := .cells #[.float .f64 0, .float .f64 0, .float .f64 0, .float .f64 0] 51) A0; replace A1 := up_alloc (o := .cells #[.float .f64 0, .float .f64 0, .float .f64 0, .float .f64 0] 51) A1; replace A2 := up_alloc (o := .cells #[.float .f64 0, .float .f64 0, .float .f64 0, .float .f64 0] 51) A2; replace A3 := up_alloc (o := .cells #[.float .f64 0, .float .f64 0, .float .f64 0, .float .f64 0] 51) A3; replace D0 := up_alloc (o := .cells #[.float .f64 0, .float .f64 0, .float .f64 0, .float .f64 0] 51) D0; replace D1 := up_alloc (o := .cells #[.float .f64 0, .float .f64 0, .float .f64 0, .float .f64 0] 51) D1; replace D2 := up_alloc (o := .cells #[.float .f64 0, .float .f64 0, .float .f64 0, .float .f64 0] 51) D2; replace D3 := up_alloc (o := .cells #[.float .f64 0, .float .f64 0, .float .f64 0, .float .f64 0] 51) D3; replace B1 := bl_alloc B1 #[.float .f64 0, .float .f64 0, .float .f64 0, .float .f64 0] 51))
          go_ret
          exact ⟨rfl, B1⟩


end Go.Proofs.Ytnbkjkbgfcpcfaa
