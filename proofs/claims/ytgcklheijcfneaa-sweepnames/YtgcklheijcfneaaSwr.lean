/-
  What each function of package sweep answers, and what the reference of its chapter answers: one contract a function, for every list of boxes; of the memory that was there nothing has turned.
-/
import Derived.Test.YtgcklheijcfneaaSwb
import Derived.Test.YtgcklheijcfneaaBref
import Derived.Below
import Derived.BigQuiet
import Derived.OwnWalk
import Derived.Laws.AppendOwn
import Derived.Laws.AppendOwnNone
import Derived.WalkKit
import Derived.WalkLawsBesides
import Derived.WalkSpells
import Derived.ProofKit
import Derived.OpenShut
import Derived.Deep.RegionHeld3
import Derived.Deep.LoopGhost
namespace Go.Proofs.Ytgcklheijcfneaa
open Go.ChangeShapes Go.WideShapes Go.ChangeAt Go.RowKit Go.Shelf Go.Lib Go.Sort
set_option linter.unusedVariables false
set_option linter.unusedSimpArgs false


theorem with_any (sa : Option Addr) (n cap : Nat) (B : Nat → Bo) (y : Bo) (w : World) (hA : AnyB w sa n B) :
    Calls Try.prog 10 #[.slice sa n cap, .agg #[.float .f64 y.1, .float .f64 y.2.1, .float .f64 y.2.2.1, .float .f64 y.2.2.2]] w fun e w' => ∃ v, e = .returned (.tuple #[v, .int .i64 (mnE n)]) ∧ OwnR 1 w.heap.size w' v (wiL B n y).length (iRow (wiL B n y)) ∧ Bel w w' := by
  rcases Nat.lt_or_ge 16384 n with hn | hn
  · refine (with_many sa n cap y w hn).mono ?_
    rintro e w' ⟨rfl, hb⟩
    exact ⟨_, by rw [mnE, if_pos hn], by rw [wiL, if_pos hn]; exact OwnR.nil _ _ _, hb⟩
  · have e1 : wiL B n y = nums (fun i => meO (B i) y) n := by rw [wiL, if_neg (by omega)]
    have e2 : mnE n = 0 := by rw [mnE, if_neg (by omega)]
    rw [e1, e2]
    rcases hA with rfl | ⟨b, off, rfl, hB, hb⟩
    · exact with_0 sa cap _ y w
    · exact with_s b off n cap B y w hB hn
theorem ord_any (sa : Option Addr) (n cap : Nat) (B : Nat → Bo) (w : World) (hA : AnyB w sa n B) :
    Calls Try.prog 11 #[.slice sa n cap] w fun e w' => ∃ v O, e = .returned (.tuple #[v, .int .i64 (mnE n)]) ∧ OrdR B n O ∧ OwnR 1 w.heap.size w' v (O).length (iRow (O)) ∧ Below w.heap.size w w' ∧ (O = [] → Bel w w') := by
  rcases Nat.lt_or_ge 16384 n with hn | hn
  · refine (ord_many sa n cap w hn).mono ?_
    rintro e w' ⟨rfl, hb⟩
    exact ⟨_, [], by rw [mnE, if_pos hn], ⟨fun _ => rfl, fun h => by omega⟩, OwnR.nil _ _ _, hb.1, fun _ => hb⟩
  · have e2 : mnE n = 0 := by rw [mnE, if_neg (by omega)]
    rw [e2]
    rcases hA with rfl | ⟨b, off, rfl, hB, hb⟩
    · refine (ord_0 sa cap w).mono ?_
      rintro e w' ⟨rfl, hb⟩
      exact ⟨_, [], rfl, ⟨fun h => by omega, fun _ => ordL_none B⟩, OwnR.nil _ _ _, hb.1, fun _ => hb⟩
    · refine (ord_s b off n cap B w hB hn hb).mono ?_
      rintro e w' ⟨v, O, rfl, h1, h2, h3, h4⟩
      exact ⟨v, O, rfl, ⟨fun h => by omega, fun _ => h1⟩, h2, h3, h4⟩


end Go.Proofs.Ytgcklheijcfneaa
