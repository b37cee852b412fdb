/-
  What each function of package sweep answers, and what the reference of its chapter answers: one contract a function, for every list of boxes; of the memory that was there nothing has turned.
-/
import Derived.Test.YtekhnolpgoejdaaGreatSwf
import Derived.Test.YtekhnolpgoejdaaGreatSwt
import Derived.Test.YtekhnolpgoejdaaGreatGm
import Derived.Below
import Derived.BigQuiet
import Derived.OwnWalk
import Derived.Laws.AppendOwn
import Derived.Laws.AppendOwnNone
import Derived.WalkKit
import Derived.WalkLawsBesides
import Derived.WalkSpells
import Derived.ProofKit
import Derived.OpenShut
import Derived.Deep.RegionHeld3
import Derived.Deep.LoopGhost
namespace Go.Proofs.YtekhnolpgoejdaaGreat
open Go.ChangeShapes Go.WideShapes Go.ChangeAt Go.RowKit Go.Shelf Go.Lib Go.Sort
set_option linter.unusedVariables false
set_option linter.unusedSimpArgs false

theorem pairs_many (sa : Option Addr) (n cap : Nat) (w : World) (hn : 16384 < n) :
    Calls Tryz.prog 19 #[.slice sa n cap] w fun e w' => e = .returned (.tuple #[.slice none 0 0, .int .i64 4]) ∧ Below w.heap.size w w' := by
  go_enter Tryz.func19, Tryz.ntmps19
  go_wp2_with (first | (go_at_call 45; (with_reducible refine (ord_many sa n cap _ hn).mono ?_); rintro e w1 ⟨rfl, hb⟩))
  refine bodyPost_ret (v := .tuple #[.slice none 0 0, .int .i64 4]) (by simp [results, Tryz.results19, go_sem]) rfl ?_
  exact ⟨rfl, hb.1⟩
theorem pairs_0 (sa : Option Addr) (cap : Nat) (w : World) :
    Calls Tryz.prog 19 #[.slice sa 0 cap] w fun e w' => e = .returned (.tuple #[.slice none 0 0, .int .i64 0]) ∧ Below w.heap.size w w' := by
  go_enter Tryz.func19, Tryz.ntmps19
  go_wp2_with (first | (go_at_call 45; (with_reducible refine (ord_0 sa cap _).mono ?_); rintro e w1 ⟨rfl, hb⟩))
  go_loopg [6, 21] 0 (fun kx s6 s21 wr => s6 = .slice none 0 0 ∧ s21 = .int .i64 0 ∧ Bel w wr)
  case atStart => exact ⟨rfl, rfl, hb⟩
  case round =>
    obtain ⟨rfl, rfl, hWr⟩ := hrel
    have hO : OwnR 2 w.heap.size wr (.slice none 0 0) (([] : List (Nat × Nat))).length (pRow (([] : List (Nat × Nat)))) := OwnR.nil _ _ _
    go_wp2_with (first | (go_at_call 47; (with_reducible refine (rise_s w.heap.size _ [] _ hO (by decide)).mono ?_); rintro e w2 ⟨rfl, L', p1, p2, p3, p4⟩))
    refine bodyPost_ret (v := .tuple #[.slice none 0 0, .int .i64 0]) (by simp [results, Tryz.results19, go_sem]) rfl ?_
    have : L' = [] := List.Perm.eq_nil p1
    subst this
    exact ⟨rfl, hWr.1.trans p4⟩
theorem pairs_any (sa : Option Addr) (n cap : Nat) (B : Nat → Bo) (w : World) (hA : AnyB w sa n B) :
    Calls Tryz.prog 19 #[.slice sa n cap] w fun e w' => ∃ v, e = .returned (.tuple #[v, .int .i64 (prE n (refP B n))]) ∧ OwnR 2 w.heap.size w' v (prL n (refP B n)).length (pRow (prL n (refP B n))) ∧ (prL n (refP B n) = [] → v = .slice none 0 0) ∧ Below w.heap.size w w' := by
  rcases Nat.lt_or_ge 16384 n with hn | hn
  · rw [show prE n (refP B n) = 4 by rw [prE, if_pos hn], show prL n (refP B n) = [] by rw [prL, if_pos hn]]
    refine (pairs_many sa n cap w hn).mono ?_
    rintro e w' ⟨rfl, hb⟩
    exact ⟨_, rfl, OwnR.nil _ _ _, fun _ => rfl, hb⟩
  · rcases hA with rfl | ⟨b, off, rfl, hB, hb⟩
    · refine (pairs_0 sa cap w).mono ?_
      rintro e w' ⟨rfl, hb⟩
      exact ⟨_, rfl, OwnR.nil _ _ _, fun _ => rfl, hb⟩
    · refine (pairs_s b off n cap B w hB hn hb).mono ?_
      rintro e w' ⟨hb, ⟨h1, rfl⟩ | ⟨h1, v, rfl, h2, h3⟩⟩
      · rw [show prE n (refP B n) = 4 by rw [prE, if_neg (by omega), if_pos h1], show prL n (refP B n) = [] by rw [prL, if_neg (by omega), if_pos h1]]
        exact ⟨_, rfl, OwnR.nil _ _ _, fun _ => rfl, hb⟩
      · rw [show prE n (refP B n) = 0 by rw [prE, if_neg (by omega), if_neg (by omega)], show prL n (refP B n) = refP B n by rw [prL, if_neg (by omega), if_neg (by omega)]]
        exact ⟨v, rfl, h2, h3, hb⟩

end Go.Proofs.YtekhnolpgoejdaaGreat
