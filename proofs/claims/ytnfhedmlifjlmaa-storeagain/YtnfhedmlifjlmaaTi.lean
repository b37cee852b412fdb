/-
  What each function of package store answers, and what its memory holds afterwards: one contract a function; of the memory that was there only the store's own blocks have turned.
-/
import Derived.Test.YtnfhedmlifjlmaaChecked
import Derived.Test.YtnfhedmlifjlmaaTg
import Derived.Test.YtnfhedmlifjlmaaTf
import Derived.Test.YtnfhedmlifjlmaaTh
import Derived.Test.YtnfhedmlifjlmaaUn
import Derived.Below
import Derived.BigQuiet
import Derived.OwnWalk
import Derived.Laws.AppendOwn
import Derived.Laws.AppendOwnNone
import Derived.WalkKit
import Derived.WalkLawsBesides
import Derived.WalkSpells
import Derived.ProofKit
import Derived.OpenShut
import Derived.Deep.RegionHeld3
import Derived.Deep.LoopGhost
import Derived.Laws.StructEq
import Derived.Lib.Builder
import Derived.Deep.DeepCutAuto
import Derived.Lib.SliceRun
import Derived.Laws.MakeOwn
namespace Go.Proofs.Ytnfhedmlifjlmaa
open Go.ChangeShapes Go.WideShapes Go.ChangeAt Go.RowKit Go.Lib
set_option linter.unusedVariables false
set_option linter.unusedSimpArgs false
set_option maxRecDepth 100000
set_option maxHeartbeats 4000000


theorem new_dS (most : Nat) (h1 : 1 ≤ most) (h2 : most ≤ 16384) (w : World) {x : Int} (hx : (most : Int) = x) : Calls Try.prog 15 #[.int .i64 x] w fun e w' => ∃ p, e = .returned (.tuple #[.pointer (some ⟨p, 0, none⟩), .int .i64 0]) ∧ w.heap.size ≤ p ∧ Sto w' ⟨p, none, 0, none, 0, none, 0⟩ ⟨most, 0, 0, [], [], []⟩ ∧ Bel w w' := by
  subst hx
  exact new_S most h1 h2 w
theorem put_dS {m : Sm} {s : Ss} {w : World} (h : Sto w m s) (ho : Okk s) (x : ByteArray) {k : Nat} {p : Nat} (hp : m.p = p) (hk : NextIs s k) (hm : k < s.most) {a b : Int} (ha : (k : Int) = a) (hb : ((s.U.getD k 0 + 1 : Nat) : Int) = b) : Calls Try.prog 16 #[.pointer (some ⟨p, 0, none⟩), .string x] w fun e w' => e = .returned (.tuple #[.agg #[.int .u32 a, .int .u32 b], .int .i64 0]) ∧ ∃ m', m'.p = p ∧ Sto w' m' (putS s k (.string x)) ∧ Fr m.F m'.F w w' := by
  subst hp ha hb
  refine (put_S m s w h ho x).mono ?_
  rintro e w' ⟨k', m', hk', hp', hf, hc | hc⟩
  · obtain ⟨h1, _, _⟩ := hc
    have := hk'.uniq hk
    omega
  · obtain ⟨h1, rfl, hS⟩ := hc
    have e := hk'.uniq hk
    subst e
    exact ⟨rfl, m', hp', hS, hf⟩
theorem put_nS {m : Sm} {s : Ss} {w : World} (h : Sto w m s) (ho : Okk s) (x : ByteArray) {k : Nat} {p : Nat} (hp : m.p = p) (hk : NextIs s k) (hm : k = s.most) : Calls Try.prog 16 #[.pointer (some ⟨p, 0, none⟩), .string x] w fun e w' => e = .returned (.tuple #[.agg #[.int .u32 0, .int .u32 0], .int .i64 4]) ∧ ∃ m', m'.p = p ∧ Sto w' m' { s with nx := k } ∧ Fr m.F m'.F w w' := by
  subst hp
  refine (put_S m s w h ho x).mono ?_
  rintro e w' ⟨k', m', hk', hp', hf, hc | hc⟩
  · obtain ⟨h1, rfl, hS⟩ := hc
    have e := hk'.uniq hk
    subst e
    exact ⟨rfl, m', hp', hS, hf⟩
  · obtain ⟨h1, _, _⟩ := hc
    have := hk'.uniq hk
    omega
theorem take_dS {m : Sm} {s : Ss} {w : World} (h : Sto w m s) (ho : Okk s) {p : Nat} (hp : m.p = p) {a b : Nat} {x y : Int} (hx : (a : Int) = x) (hy : (b : Int) = y) (ha : a < 4294967296) (hb : b < 4294967296) (hn : Named s a b) {v : Value} (hv : Thing s a v) : Calls Try.prog 17 #[.pointer (some ⟨p, 0, none⟩), .agg #[.int .u32 x, .int .u32 y]] w fun e w' => e = .returned (.tuple #[v, .int .i64 0]) ∧ Sto w' m (takeS s a (.string { data := #[] })) ∧ Fr m.F m.F w w' := by
  subst hp hx hy
  refine (take_S m s w h ho a b ha hb).mono ?_
  rintro e w' ⟨⟨_, ⟨v', hv', rfl⟩, hS⟩ | ⟨hn', _⟩, hf⟩
  · have e1 : s.T[a]? = some v := hv
    have e2 : s.T[a]? = some v' := hv'
    rw [e1] at e2
    cases e2
    exact ⟨rfl, hS, hf⟩
  · exact absurd hn hn'
theorem take_nS {m : Sm} {s : Ss} {w : World} (h : Sto w m s) (ho : Okk s) {p : Nat} (hp : m.p = p) {a b : Nat} {x y : Int} (hx : (a : Int) = x) (hy : (b : Int) = y) (ha : a < 4294967296) (hb : b < 4294967296) (hn : ¬ Named s a b) : Calls Try.prog 17 #[.pointer (some ⟨p, 0, none⟩), .agg #[.int .u32 x, .int .u32 y]] w fun e w' => e = .returned (.tuple #[.string { data := #[] }, .int .i64 9]) ∧ Sto w' m s ∧ Fr m.F m.F w w' := by
  subst hp hx hy
  refine (take_S m s w h ho a b ha hb).mono ?_
  rintro e w' ⟨⟨hn', _⟩ | ⟨_, rfl, hS⟩, hf⟩
  · exact absurd hn' hn
  · exact ⟨rfl, hS, hf⟩
theorem get_dS {m : Sm} {s : Ss} {w : World} (h : Sto w m s) (ho : Okk s) {p : Nat} (hp : m.p = p) {a b : Nat} {x y : Int} (hx : (a : Int) = x) (hy : (b : Int) = y) (ha : a < 4294967296) (hb : b < 4294967296) (hn : Named s a b) {v : Value} (hv : Thing s a v) : Calls Try.prog 18 #[.pointer (some ⟨p, 0, none⟩), .agg #[.int .u32 x, .int .u32 y]] w fun e w' => e = .returned (.tuple #[v, .int .i64 0]) ∧ Bel w w' := by
  subst hp hx hy
  refine (get_S m s w h ho a b ha hb).mono ?_
  rintro e w' ⟨⟨_, v', hv', rfl⟩ | ⟨hn', _⟩, hf⟩
  · have e1 : s.T[a]? = some v := hv
    have e2 : s.T[a]? = some v' := hv'
    rw [e1] at e2
    cases e2
    exact ⟨rfl, hf⟩
  · exact absurd hn hn'
theorem get_nS {m : Sm} {s : Ss} {w : World} (h : Sto w m s) (ho : Okk s) {p : Nat} (hp : m.p = p) {a b : Nat} {x y : Int} (hx : (a : Int) = x) (hy : (b : Int) = y) (ha : a < 4294967296) (hb : b < 4294967296) (hn : ¬ Named s a b) : Calls Try.prog 18 #[.pointer (some ⟨p, 0, none⟩), .agg #[.int .u32 x, .int .u32 y]] w fun e w' => e = .returned (.tuple #[.string { data := #[] }, .int .i64 9]) ∧ Bel w w' := by
  subst hp hx hy
  refine (get_S m s w h ho a b ha hb).mono ?_
  rintro e w' ⟨⟨hn', _⟩ | ⟨_, rfl⟩, hf⟩
  · exact absurd hn' hn
  · exact ⟨rfl, hf⟩
theorem len_dS {m : Sm} {s : Ss} {w : World} (h : Sto w m s) {p : Nat} (hp : m.p = p) {x : Int} (hx : (s.ln : Int) = x) : Calls Try.prog 19 #[.pointer (some ⟨p, 0, none⟩)] w fun e w' => e = .returned (.int .i64 x) ∧ w' = w := by
  subst hp hx
  exact len_S m s w h

end Go.Proofs.Ytnfhedmlifjlmaa
