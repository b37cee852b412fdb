/-
  What each function of package poly answers, and what the reference of its chapter answers: one contract a function, for every float: the answer stands in the relation of its formula to what was given; of the memory that was there nothing has turned.
-/
import Derived.Test.YtfaiaepkmlmoaaaGreatVec
import Derived.Test.YtfaiaepkmlmoaaaGreatMpb
import Derived.Test.YtfaiaepkmlmoaaaGreatMpc
import Derived.Test.YtfaiaepkmlmoaaaGreatMu
import Derived.Test.YtfaiaepkmlmoaaaGreatMi
import Derived.Deep.DeepCutAuto
import Derived.Below
import Derived.Laws.MakeOwn
import Derived.Laws.StructEq
import Derived.Deep.LoopGhost
import Derived.BigQuiet
import Derived.OwnWalk
import Derived.Laws.AppendOwn
import Derived.WalkKit
import Derived.WalkLawsBesides
import Derived.WalkSpells
import Derived.ProofKit
import Derived.OpenShut
import Derived.Deep.RegionHeld3
namespace Go.Proofs.YtfaiaepkmlmoaaaGreat
open Go.ChangeShapes Go.WideShapes Go.ChangeAt Go.RowKit
set_option linter.unusedVariables false
set_option linter.unusedSimpArgs false


set_option maxRecDepth 100000 in
set_option maxHeartbeats 4000000 in
theorem massparts8 (a : Option Addr) (n cap : Nat) (Kq : Nat → Int) (R : Nat → Nat) (va : Nat → Option Addr) (cp N : Nat → Nat) (X Y : Nat → Nat → Nat) (D F B : Nat → Nat) (S : Nat → Bool) (La Ma : Nat → Int) (w : World) (h : n = 0 ∨ ∃ b off, a = some ⟨b, off, none⟩ ∧ Pq w b off n Kq R (fun i => .slice (va i) (N i) (cp i)) D F B S La Ma) (hA : ∀ i, i < n → N i ≤ 100 → AnyS w (.slice (va i) (N i) (cp i)) (N i) (X i) (Y i)) (hr : ∀ i, i < n → okK .f64 (R i)) : Calls Tryz.prog 3 #[.slice a n cap] w fun e w' => e = .returned (.bool true) ∧ Bel w w' := by
  by_cases h20 : 20 < n
  · have hnz : (20 : Int) < (n : Int) := by omega
    go_enter Tryz.func3, Tryz.ntmps3
    go_wp2_with (first | (go_at_call 4; (with_reducible refine (alive8 _).mono ?_); rintro e w1 ⟨rfl, hb1⟩))
    go_ret
    exact ⟨rfl, hb1⟩
  have hnz : ¬ (20 : Int) < (n : Int) := by omega
  go_enter Tryz.func3, Tryz.ntmps3
  go_wp2_with (first | (go_at_call 4; (with_reducible refine (alive8 _).mono ?_); rintro e w1 ⟨rfl, hb1⟩))
  go_loopg [4] n (fun kx s4 wr => ∃ k : Nat, s4 = .int .i64 k ∧ k ≤ n ∧ n - k ≤ kx ∧ Hid (∀ i, i < k → N i ≤ 100) ∧ wr = w1)
  case atStart => exact ⟨0, rfl, by omega, by omega, (fun i hi => absurd hi (Nat.not_lt_zero _)), rfl⟩
  case round =>
    obtain ⟨k, rfl, hkn, hkx, hN, hw⟩ := hrel
    rw [hw]
    clear hw
    by_cases hlt : k < n
    · have hkz : (k : Int) < (n : Int) := by omega
      have wi : IntKind.wrap .i64 ((k : Int) + 1) = (k : Int) + 1 := by rw [IntKind.wrap_i64]; omega
      obtain ⟨b, off, rfl, hQ⟩ : ∃ b off, a = some ⟨b, off, none⟩ ∧ Pq w b off n Kq R (fun i => .slice (va i) (N i) (cp i)) D F B S La Ma := by
        rcases h with h | h
        · omega
        · exact h
      obtain ⟨_, _, x2, _⟩ := (hQ.bel hb1) k hlt
      simp only at x2
      by_cases hk1 : N k ≤ 100
      · have hz : ¬ (100 : Int) < (N k : Int) := by omega
        go_wp2
        go_roundg (n - (k + 1))
        case measure => omega
        case rel => exact ⟨k + 1, by go_num, by omega, by omega, (fun i hi => by
          rcases Nat.lt_or_ge i k with h' | h'
          · exact hN.out i h'
          · rw [show i = k by omega]; exact hk1), rfl⟩
      · have hz : (100 : Int) < (N k : Int) := by omega
        go_wp2
        go_ret
        exact ⟨rfl, hb1⟩
    · have hkk : k = n := by omega
      subst hkk
      have hkz : ¬ (k : Int) < (k : Int) := by omega
      have hA1 : ∀ i, i < k → AnyS w ((fun i => .slice (va i) (N i) (cp i)) i) (N i) (X i) (Y i) := fun i hi => hA i hi (hN.out i hi)
      have hoks : ∀ i, i < k → Oks (X i) (Y i) (N i) ∧ okK .f64 (R i) := fun i hi => by obtain ⟨_, _, _, _, _, _, ho, _⟩ := hA1 i hi; exact ⟨ho, hr i hi⟩
      have hP := fun W (g : Bel w W) => parts_any a k cap Kq R (fun i => .slice (va i) (N i) (cp i)) N X Y D F B S La Ma W (h.imp id (fun ⟨b, off, e, q⟩ => ⟨b, off, e, q.bel g⟩)) (fun i hi => (hA1 i hi).bel g) hr (by omega)
      have hRp := fun W (g : Bel w W) => rparts_any a k cap Kq R (fun i => .slice (va i) (N i) (cp i)) N X Y D F B S La Ma W (h.imp id (fun ⟨b, off, e, q⟩ => ⟨b, off, e, q.bel g⟩)) (fun i hi => (hA1 i hi).bel g) hr (by omega)
      have hp1 := hP w1 hb1
      go_upto_region 12 with (first | (go_at_call 5; (with_reducible refine hp1.mono ?_); rintro e w2 ⟨m, j, x, y, f, hPa, rfl, hb2⟩))
      have bb_w2 := bl_alloc (bl_refl w2) #[.float .f64 m, .float .f64 j, .float .f64 x, .float .f64 y] 34; have w2c0 : (w2.alloc (.cells #[.float .f64 m, .float .f64 j, .float .f64 x, .float .f64 y] 34)).cell? ⟨w2.heap.size, 0, none⟩ = some (.float .f64 m) := (by rw [World.cell?_alloc_new]; rfl); have w2c1 : (w2.alloc (.cells #[.float .f64 m, .float .f64 j, .float .f64 x, .float .f64 y] 34)).cell? ⟨w2.heap.size, 1, none⟩ = some (.float .f64 j) := (by rw [World.cell?_alloc_new]; rfl); have w2c2 : (w2.alloc (.cells #[.float .f64 m, .float .f64 j, .float .f64 x, .float .f64 y] 34)).cell? ⟨w2.heap.size, 2, none⟩ = some (.float .f64 x) := (by rw [World.cell?_alloc_new]; rfl); have w2c3 : (w2.alloc (.cells #[.float .f64 m, .float .f64 j, .float .f64 x, .float .f64 y] 34)).cell? ⟨w2.heap.size, 3, none⟩ = some (.float .f64 y) := (by rw [World.cell?_alloc_new]; rfl)
      have g2 := bl_trans (bl_trans hb1 hb2) bb_w2
      have hp2 := hRp _ g2
      go_upto_region 13 with (first | (go_at_call 6; (with_reducible refine hp2.mono ?_); rintro e w3 ⟨m', j', x', y', f', hPb, rfl, hb3⟩))
      have h5 := hPa.same hoks hPb
      obtain ⟨s1, s2, s3, s4, rfl⟩ := h5
      have bb_w3 := bl_alloc (bl_refl w3) #[.float .f64 m', .float .f64 j', .float .f64 x', .float .f64 y'] 34; have w3c0 : (w3.alloc (.cells #[.float .f64 m', .float .f64 j', .float .f64 x', .float .f64 y'] 34)).cell? ⟨w3.heap.size, 0, none⟩ = some (.float .f64 m') := (by rw [World.cell?_alloc_new]; rfl); have w3c1 : (w3.alloc (.cells #[.float .f64 m', .float .f64 j', .float .f64 x', .float .f64 y'] 34)).cell? ⟨w3.heap.size, 1, none⟩ = some (.float .f64 j') := (by rw [World.cell?_alloc_new]; rfl); have w3c2 : (w3.alloc (.cells #[.float .f64 m', .float .f64 j', .float .f64 x', .float .f64 y'] 34)).cell? ⟨w3.heap.size, 2, none⟩ = some (.float .f64 x') := (by rw [World.cell?_alloc_new]; rfl); have w3c3 : (w3.alloc (.cells #[.float .f64 m', .float .f64 j', .float .f64 x', .float .f64 y'] 34)).cell? ⟨w3.heap.size, 3, none⟩ = some (.float .f64 y') := (by rw [World.cell?_alloc_new]; rfl)
      replace w2c0 := keep bb_w3 (keep hb3 w2c0)
      replace w2c1 := keep bb_w3 (keep hb3 w2c1)
      replace w2c2 := keep bb_w3 (keep hb3 w2c2)
      replace w2c3 := keep bb_w3 (keep hb3 w2c3)
      have g3 := bl_trans (bl_trans g2 hb3) bb_w3
      clear hPa hPb hP hRp hp1 hp2
      go_wp2_with (first | (go_at_call 7; (with_reducible refine (same8 _ _ _ _ _ _ _ _ _ s1 s2 s3 s4).mono ?_); rintro e w4 ⟨rfl, hb4⟩))
      go_ret
      exact ⟨rfl, bl_trans g3 hb4⟩

end Go.Proofs.YtfaiaepkmlmoaaaGreat
