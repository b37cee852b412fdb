/-
  What slices.SortStableFunc does to a row of elements of one cell, whatever its length: the row that is in order, of such as are alike the earlier ahead; by its helpers one after another.
-/
import Derived.Test.YtekhnolpgoejdaaGreatStb
import Derived.Test.YtekhnolpgoejdaaGreatStc
import Derived.Test.YtekhnolpgoejdaaGreatStd
import Derived.Test.YtekhnolpgoejdaaGreatLay
import Derived.Shelf.SlSortCmp.Insertion1
import Derived.Sort.WalkB2
import Derived.Sort.WalkB12
import Derived.Deep.LoopGhost
import Derived.WalkKit
import Derived.WalkLawsBesides
import Derived.WalkSpells
import Derived.ProofKit
import Derived.OpenShut
import Derived.Test.YtekhnolpgoejdaaGreatProg
namespace Go.Proofs.YtekhnolpgoejdaaGreat
open Go.ChangeShapes Go.WideShapes Go.ChangeAt Go.RowKit Go.Shelf Go.Lib Go.Sort
set_option linter.unusedVariables false
set_option linter.unusedSimpArgs false


theorem sym_all {α : Type} [Inhabited α] (enc : α → Value) (cf : α → α → Int) (g : Nat) (cb : Array Value) (blk off cap n0 : Nat) (d0 : Array α) (w0 : World) (R : Row1 enc w0 blk off d0) (hs : d0.size = n0) (hsz : n0 < 2000000000000000000) (eg : ∀ args w, (callFunc g args).run Tryz.prog w = .ok (.enter g args) w) (hcmp : CmpLays1 Tryz.prog g cb enc cf blk off d0.size w0) (hO : SWO (ltOf cf)) (pos : α → Nat) : ∀ (z a m b : Nat) (d : Array α) (w : World), b - a ≤ z → d.size = n0 → SW enc w0 blk off d w → a < m → m < b → b ≤ n0 → Mrg (ltOf cf) pos a m b d →
    Calls Tryz.prog 121 #[.slice (some ⟨blk, off, none⟩) n0 cap, .int .i64 a, .int .i64 m, .int .i64 b, .func (.func g) #[] cb] w fun e w' => e = .returned (.tuple #[]) ∧ ∃ d', PermIn a b d d' ∧ SortedIn (stT (ltOf cf) pos) a b d' ∧ SW enc w0 blk off d' w' := by
  intro z
  induction z with
  | zero => intro a m b d w h1 h2 S h3 h4; omega
  | succ z ih =>
    intro a m b d w h1 h2 S h3 h4 h5 hM
    by_cases e1 : a + 1 = m
    · exact sym_first enc cf g cb blk off cap n0 d0 d w0 w a m b R hs h2 S hsz eg hcmp hO pos e1 h4 h5 hM
    · by_cases e2 : m + 1 = b
      · exact sym_last enc cf g cb blk off cap n0 d0 d w0 w a m b R hs h2 S hsz eg hcmp hO pos (by omega) e2 h5 hM
      · by_cases e3 : (a + b) / 2 < m
        · exact sym_hi enc cf g cb blk off cap n0 d0 d w0 w a m b ((a + b) / 2) R hs h2 S hsz eg hcmp hO pos (by omega) (by omega) h5 hM (by omega) (by omega) e3 (fun a' m' b' d' w' q1 q2 q3 q4 q5 q6 q7 => ih a' m' b' d' w' (by omega) q2 q3 q4 q5 q6 q7)
        · exact sym_lo enc cf g cb blk off cap n0 d0 d w0 w a m b ((a + b) / 2) R hs h2 S hsz eg hcmp hO pos (by omega) (by omega) h5 hM (by omega) (by omega) (by omega) (fun a' m' b' d' w' q1 q2 q3 q4 q5 q6 q7 => ih a' m' b' d' w' (by omega) q2 q3 q4 q5 q6 q7)

set_option maxHeartbeats 16000000 in
set_option maxRecDepth 1000000 in
theorem stable_s {α : Type} [Inhabited α] (enc : α → Value) (cf : α → α → Int) (g : Nat) (cb : Array Value) (blk off cap n0 : Nat) (d0 d : Array α) (w0 w : World)
    (R : Row1 enc w0 blk off d0) (hs : d0.size = n0) (hn0 : d.size = n0) (S : SW enc w0 blk off d w) (hsz : n0 < 2000000000000000000) (eg : ∀ args w, (callFunc g args).run Tryz.prog w = .ok (.enter g args) w) (hcmp : CmpLays1 Tryz.prog g cb enc cf blk off d0.size w0) (hO : SWO (ltOf cf)) (pos : α → Nat) (L : SlLaysF.n20 Tryz.prog insL_ren) (hpos : ∀ i j, i < j → j < n0 → pos d[i]! < pos d[j]!) :
    Calls Tryz.prog 107 #[.slice (some ⟨blk, off, none⟩) n0 cap, .int .i64 n0, .func (.func g) #[] cb] w fun e w' => e = .returned (.tuple #[]) ∧ ∃ d', PermIn 0 n0 d d' ∧ SortedIn (stT (ltOf cf) pos) 0 n0 d' ∧ SW enc w0 blk off d' w' := by
  have S0 : Aside (SW enc w0 blk off d w) := S
  clear S
  have HO : Aside _ := hO
  have HI : Aside (∀ (a b : Nat) (d : Array α) (w : World), d.size = n0 → SW enc w0 blk off d w → a ≤ b → b ≤ n0 → Calls Tryz.prog 120 #[.slice (some ⟨blk, off, none⟩) n0 cap, .int .i64 a, .int .i64 b, .func (.func g) #[] cb] w fun e w' => e = .returned (.tuple #[]) ∧ SW enc w0 blk off (Sort.insertionSort (ltOf cf) d a b) w') := fun a b d w q1 q2 q3 q4 => by
    have h := Any.insertionSortCmpFunc_s L enc cf g cb blk off cap a b d0 d w0 w eg hcmp R (by omega) q2 q3 (by omega) (by omega)
    rw [q1] at h
    exact h
  have HS : Aside _ := sym_all enc cf g cb blk off cap n0 d0 w0 R hs hsz eg hcmp hO pos n0
  clear hcmp hO eg
  go_enter Tryz.func107, Tryz.ntmps107
  go_wp2
  go_loopg [7, 8] n0 (fun kx s7 s8 wr => ∃ (a : Nat) (dk : Array α), s7 = .int .i64 a ∧ s8 = .int .i64 ((a : Int) + 20) ∧ a ≤ n0 ∧ n0 - a ≤ kx ∧ dk.size = n0 ∧ Aside (SW enc w0 blk off dk wr) ∧ Hid (PermIn 0 n0 d dk) ∧ Hid (Ini (ltOf cf) pos n0 a dk))
  case atStart => exact ⟨0, d, rfl, rfl, by omega, by omega, hn0, S0, permIn_refl _ _ _, Ini.start hpos⟩
  case round =>
    clear S0
    obtain ⟨a, dk, rfl, rfl, ha, hkx, hds, S1, hP, hI⟩ := hrel
    by_cases hlt : a + 20 ≤ n0
    · have hltz : (a : Int) + 20 ≤ (n0 : Int) := by omega
      have q := HI.out a (a + 20) dk wr hds S1.out (by omega) hlt
      have ea : ((a + 20 : Nat) : Int) = (a : Int) + 20 := by omega
      rw [ea] at q
      have r1 : IntKind.wrap .i64 ((a : Int) + 20 + 20) = (a : Int) + 20 + 20 := by rw [IntKind.wrap_i64]; omega
      obtain ⟨hp, _⟩ := hI.out.ins HO.out (b := a + 20) (by omega) hlt (by omega)
      clear ea
      go_wp2_with (first | (go_at_call 120; (with_reducible refine q.mono ?_); rintro e w' ⟨rfl, S2⟩))
      go_roundg (n0 - (a + 20))
      case measure => omega
      case rel => exact ⟨a + 20, _, by first | rfl | go_num, by first | rfl | go_num, hlt, Nat.le_refl _, hp.1.trans hds, S2, permIn_trans _ _ _ _ _ hP.out (permIn_mono _ _ _ _ _ _ (Nat.zero_le _) hlt (by omega) hp), hI.out.step HO.out hlt (by omega)⟩
    · have hltz : ¬ (a : Int) + 20 ≤ (n0 : Int) := by omega
      have q := HI.out a n0 dk wr hds S1.out (by omega) (Nat.le_refl _)
      obtain ⟨hp, _⟩ := hI.out.ins HO.out (b := n0) ha (Nat.le_refl _) (by omega)
      have hB := hI.out.close HO.out ha (by omega) (by omega)
      obtain ⟨d1, hd1⟩ : ∃ x, Sort.insertionSort (ltOf cf) dk a n0 = x := ⟨_, rfl⟩
      rw [hd1] at q hp hB
      have hP1 : Hid (PermIn 0 n0 d d1) := permIn_trans _ _ _ _ _ hP.out (permIn_mono _ _ _ _ _ _ (Nat.zero_le _) (Nat.le_refl _) (by omega) hp)
      have hs1 : d1.size = n0 := hp.1.trans hds
      have HB : Hid (Blk (ltOf cf) pos n0 20 0 d1) := hB
      clear hd1 hp hB hI hP S1 HI hds
      obtain ⟨W1, hW1⟩ : ∃ X, X = wr := ⟨_, rfl⟩
      subst hW1
      go_wp2_with (first | (go_at_call 120; (with_reducible refine q.mono ?_); rintro e w1 ⟨rfl, S2⟩; have S2 : Aside _ := S2))
      go_loopg [6] n0 (fun kx s6 wr => ∃ (bs : Nat) (dk : Array α), s6 = .int .i64 bs ∧ 0 < bs ∧ bs < 4 * n0 + 40 ∧ n0 - bs ≤ kx ∧ dk.size = n0 ∧ Aside (SW enc w0 blk off dk wr) ∧ Hid (PermIn 0 n0 d dk) ∧ Hid (Blk (ltOf cf) pos n0 bs 0 dk))
      case atStart => exact ⟨20, d1, rfl, by omega, by omega, by omega, hs1, S2, hP1, HB⟩
      case round =>
        clear S2 hP1 HB
        obtain ⟨bs, dk, rfl, hb0, hb1, hkx, hds, S1, hP, hB⟩ := hrel
        by_cases hbn : bs < n0
        · have hbz : (bs : Int) < (n0 : Int) := by omega
          have r2 : IntKind.wrap .i64 (2 * (bs : Int)) = 2 * (bs : Int) := by rw [IntKind.wrap_i64]; omega
          have r3 : IntKind.wrap .i64 ((bs : Int) * 2) = (bs : Int) * 2 := by rw [IntKind.wrap_i64]; omega
          obtain ⟨W2, hW2⟩ : ∃ X, X = wr := ⟨_, rfl⟩
          subst hW2
          go_wp2
          go_loopg [7, 8] n0 (fun kx s7 s8 wr => ∃ (a : Nat) (dk : Array α), s7 = .int .i64 a ∧ s8 = .int .i64 ((a : Int) + 2 * (bs : Int)) ∧ a ≤ n0 ∧ n0 - a ≤ kx ∧ dk.size = n0 ∧ Aside (SW enc w0 blk off dk wr) ∧ Hid (PermIn 0 n0 d dk) ∧ Hid (Pas (ltOf cf) pos n0 bs a dk))
          case atStart => exact ⟨0, dk, rfl, by simp, by omega, by omega, hds, S1, hP, Pas.start hb0 hB.out⟩
          case round =>
            clear S1 hP hB
            obtain ⟨a, dk, rfl, rfl, ha, hkx, hds, S1, hP, hI⟩ := hrel
            have r4 : IntKind.wrap .i64 ((a : Int) + (bs : Int)) = (a : Int) + (bs : Int) := by rw [IntKind.wrap_i64]; omega
            by_cases hlt : a + 2 * bs ≤ n0
            · have hltz : (a : Int) + 2 * (bs : Int) ≤ (n0 : Int) := by omega
              have r5 : IntKind.wrap .i64 ((a : Int) + 2 * (bs : Int) + 2 * (bs : Int)) = (a : Int) + 2 * (bs : Int) + 2 * (bs : Int) := by rw [IntKind.wrap_i64]; omega
              have q := HS.out a (a + bs) (a + 2 * bs) dk wr (by omega) hds S1.out (by omega) (by omega) hlt (hI.out.mrg hlt)
              have ea : ((a + 2 * bs : Nat) : Int) = (a : Int) + 2 * (bs : Int) := by omega
              have eb : ((a + bs : Nat) : Int) = (a : Int) + (bs : Int) := by omega
              rw [ea, eb] at q
              clear ea eb
              go_wp2_with (first | (go_at_call 121; (with_reducible refine q.mono ?_); rintro e w' ⟨rfl, d2, hp, hq, S2⟩))
              go_roundg (n0 - (a + 2 * bs))
              case measure => omega
              case rel => exact ⟨a + 2 * bs, d2, by first | rfl | go_num | (congr 1; omega), by first | rfl | go_num | (congr 1; omega), hlt, Nat.le_refl _, hp.1.trans hds, S2, permIn_trans _ _ _ _ _ hP.out (permIn_mono _ _ _ _ _ _ (Nat.zero_le _) hlt (by omega) hp), hI.out.step hb0 hlt (by omega) hp hq⟩
            · have hltz : ¬ (a : Int) + 2 * (bs : Int) ≤ (n0 : Int) := by omega
              by_cases hm : a + bs < n0
              · have hmz : (a : Int) + (bs : Int) < (n0 : Int) := by omega
                have q := HS.out a (a + bs) n0 dk wr (by omega) hds S1.out (by omega) hm (Nat.le_refl _) (hI.out.mrgE hm (by omega))
                have eb : ((a + bs : Nat) : Int) = (a : Int) + (bs : Int) := by omega
                rw [eb] at q
                clear eb
                go_wp2_with (first | (go_at_call 121; (with_reducible refine q.mono ?_); rintro e w' ⟨rfl, d2, hp, hq, S2⟩))
                go_roundg (n0 - bs * 2)
                case measure => omega
                case rel => exact ⟨bs * 2, d2, by first | rfl | go_num | (congr 1; omega), by omega, by omega, by omega, hp.1.trans hds, S2, permIn_trans _ _ _ _ _ hP.out (permIn_mono _ _ _ _ _ _ (Nat.zero_le _) (Nat.le_refl _) (by omega) hp), (show Blk _ _ _ _ _ _ from by rw [Nat.mul_comm]; exact hI.out.close hb0 ha (by omega) (by omega) hp hq)⟩
              · have hmz : ¬ (a : Int) + (bs : Int) < (n0 : Int) := by omega
                go_wp2
                go_roundg (n0 - bs * 2)
                case measure => omega
                case rel => exact ⟨bs * 2, dk, by first | rfl | go_num | (congr 1; omega), by omega, by omega, by omega, hds, S1, hP, (show Blk _ _ _ _ _ _ from by rw [Nat.mul_comm]; exact hI.out.close hb0 ha (by omega) (by omega) (permIn_refl _ _ _) (hI.out.same (by omega)))⟩
        · have hbz : ¬ (bs : Int) < (n0 : Int) := by omega
          go_wp2
          go_end0
          exact ⟨rfl, dk, hP.out, hB.out.whole (by omega), S1.out⟩
set_option maxHeartbeats 4000000 in
/-- slices.SortStableFunc of elements of one cell -/
theorem sortStable_s {α : Type} [Inhabited α] (enc : α → Value) (cf : α → α → Int) (g : Nat) (cb : Array Value) (blk off cap n0 : Nat) (d : Array α) (w : World)
    (h1 : OneCell enc) (hH : Holds enc w blk off d) (hblk : blk < w.heap.size) (hn0 : d.size = n0) (hsz : n0 < 2000000000000000000) (eg : ∀ args w, (callFunc g args).run Tryz.prog w = .ok (.enter g args) w) (hcmp : CmpLays1 Tryz.prog g cb enc cf blk off d.size w) (hO : SWO (ltOf cf)) (pos : α → Nat) (L : SlLaysF.n20 Tryz.prog insL_ren) (hpos : ∀ i j, i < j → j < n0 → pos d[i]! < pos d[j]!) :
    Calls Tryz.prog 74 #[.slice (some ⟨blk, off, none⟩) n0 cap, .func (.func g) #[] cb] w fun e w' => e = .returned (.tuple #[]) ∧ ∃ d', PermIn 0 n0 d d' ∧ SortedIn (stT (ltOf cf) pos) 0 n0 d' ∧ SW enc w blk off d' w' := by
  have q := stable_s enc cf g cb blk off cap n0 d d w w ⟨h1, hH, hblk⟩ hn0 hn0 (SW.start hH) hsz eg hcmp hO pos L hpos
  clear hH hcmp h1 hO
  go_enter Tryz.func74, Tryz.ntmps74
  go_wp2_with (first | (go_at_call 107; (with_reducible refine q.mono ?_); rintro e w' ⟨rfl, d', h1, h2, h3⟩))
  go_end0
  exact ⟨rfl, d', h1, h2, h3⟩

end Go.Proofs.YtekhnolpgoejdaaGreat
