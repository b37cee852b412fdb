/-
  What slices.SortStableFunc does to a row of elements of one cell, whatever its length: the row that is in order, of such as are alike the earlier ahead; by its helpers one after another.
-/
import Derived.Test.YtekhnolpgoejdaaGreatStp
import Derived.Shelf.SlSortCmp.Insertion1
import Derived.Sort.WalkB2
import Derived.Sort.WalkB12
import Derived.Deep.LoopGhost
import Derived.WalkKit
import Derived.WalkLawsBesides
import Derived.WalkSpells
import Derived.ProofKit
import Derived.OpenShut
import Derived.Test.YtekhnolpgoejdaaGreatProg
namespace Go.Proofs.YtekhnolpgoejdaaGreat
open Go.ChangeShapes Go.WideShapes Go.ChangeAt Go.RowKit Go.Shelf Go.Lib Go.Sort
set_option linter.unusedVariables false
set_option linter.unusedSimpArgs false


/-- what an exchange of two ranges leaves, so far -/
theorem sw_step {α : Type} [Inhabited α] {d dk : Array α} {a b i : Nat} (hab : a + i < b) (hb : b + i < d.size) (hs : dk.size = d.size) (h : ∀ k, dk[k]! = swF d a b i k) : ∀ k, (swp dk (a + i) (b + i))[k]! = swF d a b (i + 1) k := by
  intro k
  rw [swp_get dk (by omega) (by omega)]
  simp only [h, swF]
  repeat' split
  all_goals first | rfl | omega | (congr 1; omega)
set_option maxHeartbeats 4000000 in
set_option maxRecDepth 1000000 in
theorem swapRange_s {α : Type} [Inhabited α] (enc : α → Value) (cf : α → α → Int) (g : Nat) (cb : Array Value) (blk off cap n0 : Nat) (d0 d : Array α) (w0 w : World) (a b n : Nat)
    (R : Row1 enc w0 blk off d0) (hs : d0.size = n0) (hn0 : d.size = n0) (S : SW enc w0 blk off d w) (hsz : n0 < 2000000000000000000) (hab : a + n ≤ b) (hb : b + n ≤ n0) :
    Calls Tryz.prog 131 #[.slice (some ⟨blk, off, none⟩) n0 cap, .int .i64 a, .int .i64 b, .int .i64 n, .func (.func g) #[] cb] w fun e w' => e = .returned (.tuple #[]) ∧ ∃ d', d'.size = n0 ∧ (∀ k, d'[k]! = swF d a b n k) ∧ (∀ x y, x ≤ a → b + n ≤ y → y ≤ n0 → PermIn x y d d') ∧ SW enc w0 blk off d' w' := by
  have mixed : Tryz.prog.follows Departure.mixedOrders = true := by kernel_rfl
  have hcl0 := R.hO.cells
  simp only [Value.cells] at hcl0
  have hst := R.hO.store Tryz.prog
  have S0 : Aside (SW enc w0 blk off d w) := S
  clear S
  go_enter Tryz.func131, Tryz.ntmps131
  go_wp2
  go_loopg [10] n (fun kx s10 wr => ∃ (i : Nat) (dk : Array α), s10 = .int .i64 i ∧ i ≤ n ∧ n - i ≤ kx ∧ dk.size = n0 ∧ Aside (SW enc w0 blk off dk wr) ∧ Hid (∀ k, dk[k]! = swF d a b i k) ∧ Hid (∀ x y, x ≤ a → b + n ≤ y → y ≤ n0 → PermIn x y d dk))
  case atStart => exact ⟨0, d, rfl, by omega, by omega, hn0, S0, fun k => by rw [swF, if_neg (by omega), if_neg (by omega)], fun x y _ _ _ => permIn_refl _ _ _⟩
  case round =>
    clear S0
    obtain ⟨i, dk, rfl, hin, hkx, hds, S1, hF, hP⟩ := hrel
    by_cases hlt : i < n
    · have hltz : (i : Int) < (n : Int) := by omega
      go_wp2_with fail
      obtain ⟨iN1, hiN1⟩ : ∃ q, q = a + i := ⟨_, rfl⟩
      obtain ⟨jN1, hjN1⟩ : ∃ q, q = b + i := ⟨_, rfl⟩
      have ea1 : ((a : Int) + (i : Int)).toNat = iN1 := by omega
      have pa1 : (0 : Int) ≤ (a : Int) + (i : Int) := by omega
      have ba1 : (a : Int) + (i : Int) < (n0 : Int) := by omega
      have ra1 : IntKind.i64.wrap ((a : Int) + (i : Int)) = (a : Int) + (i : Int) := by rw [IntKind.wrap_i64]; omega
      have ec1 : ((b : Int) + (i : Int)).toNat = jN1 := by omega
      have pc1 : (0 : Int) ≤ (b : Int) + (i : Int) := by omega
      have bc1 : (b : Int) + (i : Int) < (n0 : Int) := by omega
      have rc1 : IntKind.i64.wrap ((b : Int) + (i : Int)) = (b : Int) + (i : Int) := by rw [IntKind.wrap_i64]; omega
      obtain ⟨x1, hx1⟩ : ∃ x, x = dk[a + i]! := ⟨_, rfl⟩
      obtain ⟨y1, hy1⟩ : ∃ x, x = dk[b + i]! := ⟨_, rfl⟩
      have S2 : Aside (SW enc w0 blk off (swp dk (a + i) (b + i)) ((wr.setCell ⟨blk, off + iN1, none⟩ (enc y1)).setCell ⟨blk, off + jN1, none⟩ (enc x1)).drew) := by rw [hiN1, hjN1, hx1, hy1]; exact S1.out.swapped R (a + i) (b + i) (by omega) (by omega)
      have c1a := S1.out.c1 R (by omega) (a + i) (by omega)
      have c1b := S1.out.c1 R (by omega) (b + i) (by omega)
      have f1a := S1.out.f1 R (by omega) (a + i) (by omega)
      have f1b := S1.out.f1 R (by omega) (b + i) (by omega)
      obtain ⟨u1, c1c⟩ := S1.out.c2 R (by omega) (a + i) (b + i) (by omega) (by omega) (enc y1)
      rw [← hjN1, ← hiN1] at c1c
      rw [← hx1, ← hiN1] at c1a
      rw [← hy1, ← hjN1] at c1b
      rw [← hiN1] at f1a
      rw [← hjN1] at f1b
      clear S1 hx1 hy1 hiN1 hjN1
      go_wp2_with fail
      go_big_region_o
      clear c1a c1b c1c f1a f1b
      generalize ((wr.setCell ⟨blk, off + iN1, none⟩ (enc y1)).setCell ⟨blk, off + jN1, none⟩ (enc x1)).drew = w31 at S2 ⊢
      clear ea1 ec1
      go_wp2
      go_roundg (n - (i + 1))
      case measure => omega
      case rel => exact ⟨i + 1, swp dk (a + i) (b + i), by go_num, by omega, Nat.le_refl _, by rw [size_swp]; exact hds, S2, sw_step (by omega) (by omega) (by omega) hF.out, fun x y h1 h2 h3 => permIn_trans _ _ _ _ _ (hP.out x y h1 h2 h3) (swp_permIn _ _ _ _ _ (by omega) (by omega) (by omega) (by omega) (by omega))⟩
    · have hltz : ¬ (i : Int) < (n : Int) := by omega
      have hin' : i = n := by omega
      subst hin'
      go_wp2
      go_end0
      exact ⟨rfl, dk, hds, hF.out, hP.out, S1.out⟩

set_option maxHeartbeats 4000000 in
set_option maxRecDepth 1000000 in
theorem rotate_s {α : Type} [Inhabited α] (enc : α → Value) (cf : α → α → Int) (g : Nat) (cb : Array Value) (blk off cap n0 : Nat) (d0 d : Array α) (w0 w : World) (a m b : Nat)
    (R : Row1 enc w0 blk off d0) (hs : d0.size = n0) (hn0 : d.size = n0) (S : SW enc w0 blk off d w) (hsz : n0 < 2000000000000000000) (ham : a < m) (hmb : m < b) (hb : b ≤ n0) :
    Calls Tryz.prog 127 #[.slice (some ⟨blk, off, none⟩) n0 cap, .int .i64 a, .int .i64 m, .int .i64 b, .func (.func g) #[] cb] w fun e w' => e = .returned (.tuple #[]) ∧ ∃ d', d'.size = n0 ∧ (∀ k, d'[k]! = rotF d a m b k) ∧ PermIn a b d d' ∧ SW enc w0 blk off d' w' := by
  have S0 : Aside (SW enc w0 blk off d w) := S
  clear S
  have w1 : IntKind.wrap .i64 ((m : Int) - (a : Int)) = (m : Int) - (a : Int) := by rw [IntKind.wrap_i64]; omega
  have w2 : IntKind.wrap .i64 ((b : Int) - (m : Int)) = (b : Int) - (m : Int) := by rw [IntKind.wrap_i64]; omega
  go_enter Tryz.func127, Tryz.ntmps127
  go_wp2
  go_loopg [10, 11] ((m - a) + (b - m)) (fun kx s10 s11 wr => ∃ (i j : Nat) (dk : Array α), s10 = .int .i64 i ∧ s11 = .int .i64 j ∧ 0 < i ∧ 0 < j ∧ i ≤ m - a ∧ j ≤ b - m ∧ i + j ≤ kx ∧ dk.size = n0 ∧ Aside (SW enc w0 blk off dk wr) ∧ Hid (Rot (rotF d a m b) m i j dk) ∧ Hid (PermIn a b d dk))
  case atStart => exact ⟨m - a, b - m, d, by congr 1; omega, by congr 1; omega, by omega, by omega, by omega, by omega, by omega, hn0, S0, Rot.start (by omega) (by omega), permIn_refl _ _ _⟩
  case round =>
    clear S0 w1 w2
    obtain ⟨i, j, dk, rfl, rfl, hi0, hj0, hi, hj, hkx, hds, S1, hF, hP⟩ := hrel
    obtain ⟨q, hq⟩ : ∃ q, q + i = m := ⟨m - i, by omega⟩
    have e1 : IntKind.wrap .i64 ((m : Int) - (i : Int)) = (q : Int) := by rw [IntKind.wrap_i64]; omega
    by_cases hne : i = j
    · subst hne
      have hF' := swapRange_s enc cf g cb blk off cap n0 d0 dk w0 wr q m i R hs hds S1.out hsz (by omega) (by omega)
      have hz : ((i : Int) != (i : Int)) = false := by simp
      go_wp2_with (first | (go_at_call 131; (with_reducible refine hF'.mono ?_); rintro e w' ⟨rfl, d', hd1, hd2, hd3, S2⟩))
      go_end0
      refine ⟨rfl, d', hd1, fun k => hF.out.done (by omega) (fun k => ?_) k, permIn_trans _ _ _ _ _ hP.out (hd3 a b (by omega) (by omega) hb), S2⟩
      rw [show m - i = q by omega]; exact hd2 k
    · have hz : ((i : Int) != (j : Int)) = true := by simp; omega
      by_cases hlt : j < i
      · have hltz : (j : Int) < (i : Int) := by omega
        have hF' := swapRange_s enc cf g cb blk off cap n0 d0 dk w0 wr q m j R hs hds S1.out hsz (by omega) (by omega)
        have e2 : IntKind.wrap .i64 ((i : Int) - (j : Int)) = (i : Int) - (j : Int) := by rw [IntKind.wrap_i64]; omega
        go_wp2_with (first | (go_at_call 131; (with_reducible refine hF'.mono ?_); rintro e w' ⟨rfl, d', hd1, hd2, hd3, S2⟩))
        go_roundg (i - j + j)
        case measure => omega
        case rel => exact ⟨i - j, j, d', by congr 1; omega, rfl, by omega, hj0, by omega, hj, by omega, hd1, S2, (show Rot _ _ _ _ _ from hF.out.left (by omega) hlt (fun k => by rw [show m - i = q by omega]; exact hd2 k)), permIn_trans _ _ _ _ _ hP.out (hd3 a b (by omega) (by omega) hb)⟩
      · have hltz : ¬ (j : Int) < (i : Int) := by omega
        obtain ⟨p, hp⟩ : ∃ p, p + i = m + j := ⟨m + j - i, by omega⟩
        have e3 : IntKind.wrap .i64 ((m : Int) + (j : Int)) = (m : Int) + (j : Int) := by rw [IntKind.wrap_i64]; omega
        have e4 : IntKind.wrap .i64 ((m : Int) + (j : Int) - (i : Int)) = (p : Int) := by rw [IntKind.wrap_i64]; omega
        have hF' := swapRange_s enc cf g cb blk off cap n0 d0 dk w0 wr q p i R hs hds S1.out hsz (by omega) (by omega)
        have e2 : IntKind.wrap .i64 ((j : Int) - (i : Int)) = (j : Int) - (i : Int) := by rw [IntKind.wrap_i64]; omega
        go_wp2_with (first | (go_at_call 131; (with_reducible refine hF'.mono ?_); rintro e w' ⟨rfl, d', hd1, hd2, hd3, S2⟩))
        go_roundg (i + (j - i))
        case measure => omega
        case rel => exact ⟨i, j - i, d', rfl, by congr 1; omega, hi0, by omega, hi, by omega, by omega, hd1, S2, (show Rot _ _ _ _ _ from hF.out.right (by omega) (by omega) (fun k => by rw [show m - i = q by omega, show m + j - i = p by omega]; exact hd2 k)), permIn_trans _ _ _ _ _ hP.out (hd3 a b (by omega) (by omega) hb)⟩

end Go.Proofs.YtekhnolpgoejdaaGreat
