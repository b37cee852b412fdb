/-
  'tumblelaw17.StoreAgain' is true of every two rows of numbers (deeds): what a store tells of its slots and things is a store that answers alike from then on, and an iterator tells what was there when it was asked for; no condition.
-/
import Derived.Test.YtnfhedmlifjlmaaRows
import Derived.Test.YtnfhedmlifjlmaaSad
import Derived.WalkKit
import Derived.ProofKit
import Derived.OpenShut
import Derived.WalkLawsBesides
import Derived.WalkSpells
import Derived.Lib.SmallJoins
import Derived.Laws.Cover2
import Derived.Laws.AppendOwn
import Derived.Laws.OwnMore
import Derived.Laws.AppendOwnNone
import Derived.Deep.RegionHeld3
import Derived.Deep.RegionWith
import Derived.Deep.SlicePairs
import Derived.Deep.Strs
import Derived.SizedLaws
import Derived.Below
import Derived.Deep.DeepCutAuto
import Derived.Laws.StructEq
namespace Go.Proofs.Ytnfhedmlifjlmaa.storeAgain
open Go.ChangeShapes Go.WideShapes Go.ChangeAt Go.RowKit Go.Joins Go.Sort
set_option linter.unusedVariables false
set_option linter.unusedSimpArgs false

theorem own : ownKnob Try.prog.godebug = none := by kernel_rfl
theorem laidOut : laidOutB Try.prog = true := by kernel_rfl
theorem trod_in {H : Type} {enc : TypeId × Value → H} {P : Program} {w : World} {base fuel : Nat} {spare : Nat → Bool} {held : Bool} {t : TypeId} {cs : List Value} {x : DataW H × List MemPlace} {k : IntKind} (ht : P.underlying t = some (.int k)) (h : DataW.trod enc P w base spare held fuel t cs = some x) : ∃ z, cs = [.int k z] ∧ x = (.lit (.int k z), []) ∧ (Lit.int k z).wf = true := by
  cases fuel with
  | zero => simp [DataW.trod] at h
  | succ n =>
    unfold DataW.trod at h
    rw [ht] at h
    split at h <;> simp_all

theorem cellsM : Try.prog.cellsOf 3 = 1 := by kernel_rfl
theorem walk_any (sa0 : Option Addr) (n0 cap0 : Nat) (Y0 : Nat → Int) (sa1 : Option Addr) (n1 cap1 : Nat) (Y1 : Nat → Int) (w : World) (h0 : AnyI w sa0 n0 Y0) (r0 : n0 * 8 ≤ 140737488351232) (h1 : AnyI w sa1 n1 Y1) (r1 : n1 * 8 ≤ 140737488351232) : Calls Try.prog 4 #[.slice sa0 n0 cap0, .slice sa1 n1 cap1] w fun e w' => e = .returned (.bool true) ∧ Below w.heap.size w w' :=
  again17 sa0 n0 cap0 Y0 sa1 n1 cap1 Y1 w h0 (by omega) h1 (by omega)

/-- a row of numbers: none, or len of them in cells, with room for cap -/
def IsBoxes (w : World) (a : Option Addr) (len cap : Nat) : Prop :=
  (a = none ∧ len = 0 ∧ cap = 0) ∨ ∃ (x : Addr) (B : Nat → Int), a = some x ∧ len ≤ cap ∧ cap ≤ maxLen ∧ len * 8 ≤ 140737488351232 ∧ ∀ i, i < len → w.cell? (x.add i) = some (.int .i64 (B i))
theorem any_of {w : World} {a : Option Addr} {len cap : Nat} (h : IsBoxes w a len cap) : ∃ B, AnyI w a len B ∧ len * 8 ≤ 140737488351232 := by
  rcases h with ⟨rfl, rfl, rfl⟩ | ⟨x, B, rfl, hl, hm, hr, hcell⟩
  · exact ⟨fun _ => 0, .inl rfl, by omega⟩
  · refine ⟨B, ?_, hr⟩
    rcases Nat.eq_zero_or_pos len with h0 | h0
    · exact .inl h0
    · right
      obtain ⟨b, off, spot⟩ := x
      have hspot : spot = none := by simpa [Addr.add] using World.cell?_spot (hcell 0 h0)
      subst hspot
      have hc0 := hcell 0 h0
      rw [add_plain] at hc0
      refine ⟨b, off, rfl, fun i hi => ?_, World.block_lt_of_cell? _ _ hc0⟩
      have h1 := hcell i hi
      rwa [add_plain] at h1
theorem walk (a0 : Option Addr) (len0 cap0 : Nat) (a1 : Option Addr) (len1 cap1 : Nat) (w : World) (h0 : IsBoxes w a0 len0 cap0) (h1 : IsBoxes w a1 len1 cap1) :
    Calls Try.prog 4 #[.slice a0 len0 cap0, .slice a1 len1 cap1] w fun e w' => e = .returned (.bool true) ∧ Below w.heap.size w w' := by
  obtain ⟨B0, g0, r0⟩ := any_of h0
  obtain ⟨B1, g1, r1⟩ := any_of h1
  exact walk_any a0 len0 cap0 B0 a1 len1 cap1 B1 w g0 r0 g1 r1

set_option maxRecDepth 100000 in
theorem lifted (os : Os) (started : os.Started) (H : Type) (enc : TypeId × Value → H) :
    ReturnsInHanded {} Try.checked os 4 .any (Rows.storeAgainSpec.pre6 enc Try.prog Try.f4 Rows.storeAgainRow.domain false) (Rows.storeAgainSpec.post enc Try.prog Try.f4 false true false false) := by
  refine returnsInHanded_of_change_sized (C := Try.checked) own started (by kernel_rfl) Try.func4
    (ChangeSpec.witness6 (enc := enc) (C := Try.checked) false ⟨#[], #[.slice none 0 0, .slice none 0 0], []⟩ 8 (by kernel_rfl) (by kernel_rfl) (by kernel_rfl) (by kernel_rfl)) ?_
  intro W base args ds gs before hval0 hW hcnd hsz0 _
  have hsz : (DataW.weightsEach Try.prog (Try.f4.params.toList ++ Rows.storeAgainSpec.plain.varTypes Try.prog) (ds ++ gs)).all (· ≤ reachBytes) = true := hsz0
  have hval : ∀ (j : Nat) t v, Try.f4.params[j]? = some t → args[j]? = some v → Value.okWide Try.prog W .any base t v := hval0
  have hW' := hW
  obtain ⟨p, q, hA0, hV, rfl, hfz, hnd⟩ := hW
  have hA : DataW.TrodAll enc Try.prog W 0 (fun _ => true) true Try.f4.params.toList args.toList ds p := hA0
  rw [Try.params4] at hA hval hsz
  obtain ⟨v0, vs0, d0, ds0, p0, q0, hargs, rfl, rfl, h0, r0⟩ := trodAll_cons hA
  obtain ⟨v1, vs1, d1, ds1, p1, q1, rfl, rfl, rfl, h1, r1⟩ := trodAll_cons r0
  obtain ⟨rfl, rfl, rfl⟩ := trodAll_nil r1
  obtain rfl : args = #[v0, v1] := by cases args; simp_all
  obtain ⟨rfl, rfl⟩ := trodVars_none hV
  obtain ⟨a0, len0, cap0, rfl⟩ := okWide_slice Try.underlying35 (hval 0 35 v0 rfl rfl)
  obtain ⟨a1, len1, cap1, rfl⟩ := okWide_slice Try.underlying35 (hval 1 35 v1 rfl rfl)
  have k0 := h0
  have lt0 : ∀ x ∈ p0, x.block < W.heap.size := by obtain ⟨m, hm⟩ := k0; exact DataW.trod_lt m _ _ _ hm
  have w0 : IsBoxes W a0 len0 cap0 := by
    obtain ⟨fuel, hf⟩ := h0
    rcases Go.Deep.open_slice Try.underlying35 hf with ⟨hcs, _⟩ | ⟨x, l, c, m, n, D, Pl, hcs, _, hl, hm, hmm, hx, hcell⟩
    · simp [Value.cells] at hcs
      exact .inl hcs
    · simp [Value.cells] at hcs
      obtain ⟨rfl, rfl, rfl⟩ := hcs
      simp only [Prod.mk.injEq] at hx
      obtain ⟨rfl, rfl⟩ := hx
      have hr := sized_slice hsz (j := 0) (t := 35) (e := 3) rfl rfl Try.underlying35
      rw [show Try.prog.bytesOf 3 = 8 by kernel_rfl] at hr
      simp only [List.length_map, List.length_range, reachBytes] at hr
      have hlm : len0 ≤ m := by rw [hmm]; split <;> omega
      have V : ∀ i, ∃ q : Int, i < m → W.cell? (x.add i) = some (.int .i64 q) := by
        intro i
        by_cases hi : i < m
        · obtain ⟨cs', h1, h2⟩ := hcell i hi
          rw [cellsM] at h1
          obtain ⟨_, hlen, hce⟩ := World.cells?_some h1
          obtain ⟨a, e0, _, wa⟩ := trod_in Try.underlying3 h2
          subst e0
          have q0 := hce 0 (by decide)
          rw [Go.Deep.add_add] at q0
          exact ⟨a, fun _ => by simpa using q0⟩
        · exact ⟨0, fun h => absurd h hi⟩
      have V' := Classical.axiomOfChoice V
      obtain ⟨f, hf'⟩ := V'
      exact .inr ⟨x, f, rfl, hl, hm, by omega, fun i hi => hf' i (by omega)⟩
  have k1 := h1
  have lt1 : ∀ x ∈ p1, x.block < W.heap.size := by obtain ⟨m, hm⟩ := k1; exact DataW.trod_lt m _ _ _ hm
  have w1 : IsBoxes W a1 len1 cap1 := by
    obtain ⟨fuel, hf⟩ := h1
    rcases Go.Deep.open_slice Try.underlying35 hf with ⟨hcs, _⟩ | ⟨x, l, c, m, n, D, Pl, hcs, _, hl, hm, hmm, hx, hcell⟩
    · simp [Value.cells] at hcs
      exact .inl hcs
    · simp [Value.cells] at hcs
      obtain ⟨rfl, rfl, rfl⟩ := hcs
      simp only [Prod.mk.injEq] at hx
      obtain ⟨rfl, rfl⟩ := hx
      have hr := sized_slice hsz (j := 1) (t := 35) (e := 3) rfl rfl Try.underlying35
      rw [show Try.prog.bytesOf 3 = 8 by kernel_rfl] at hr
      simp only [List.length_map, List.length_range, reachBytes] at hr
      have hlm : len1 ≤ m := by rw [hmm]; split <;> omega
      have V : ∀ i, ∃ q : Int, i < m → W.cell? (x.add i) = some (.int .i64 q) := by
        intro i
        by_cases hi : i < m
        · obtain ⟨cs', h1, h2⟩ := hcell i hi
          rw [cellsM] at h1
          obtain ⟨_, hlen, hce⟩ := World.cells?_some h1
          obtain ⟨a, e0, _, wa⟩ := trod_in Try.underlying3 h2
          subst e0
          have q0 := hce 0 (by decide)
          rw [Go.Deep.add_add] at q0
          exact ⟨a, fun _ => by simpa using q0⟩
        · exact ⟨0, fun h => absurd h hi⟩
      have V' := Classical.axiomOfChoice V
      obtain ⟨f, hf'⟩ := V'
      exact .inr ⟨x, f, rfl, hl, hm, by omega, fun i hi => hf' i (by omega)⟩
  clear hA0 hval0 hsz0
  refine (walk a0 len0 cap0 a1 len1 cap1 W w0 w1).mono fun e W' ⟨he, bel0⟩ => ?_
  have bel := bel0
  subst he
  exact ⟨_, rfl, _, _, _, [], _, [], hW', trodAll_mk1 (shut_bool Try.underlying4 _), (trodAll_cons_mk (Below.trod laidOut (by kernel_rfl) (of_decide_eq_true (by kernel_rfl)) k0 bel lt0) (trodAll_cons_mk (Below.trod laidOut (by kernel_rfl) (of_decide_eq_true (by kernel_rfl)) k1 bel lt1) trodAll_mk0)), rfl, bel.frame _, fun h => by cases h⟩

theorem over : Rows.storeAgainRow.holds Try.pinned (OpenSpec.ofChange Rows.storeAgainSpec) :=
  OpenClaim.holds_of_wide 4 Try.f4 rfl rfl rfl rfl rfl rfl rfl ⟨rfl, rfl, rfl, rfl, rfl⟩ rfl rfl rfl rfl rfl (by kernel_rfl) Try.func4 (by kernel_rfl)
    (of_decide_eq_true (by kernel_rfl)) (by unfold Func.isWrapper; first | (rw [if_pos (by decide +kernel)]; kernel_rfl) | (rw [if_neg (by decide +kernel)]; exact ⟨rfl, rfl⟩))
    (fun os started H enc _ => lifted os started H enc)

theorem proved : Rows.StoreAgainSaid :=
  over
#print axioms proved
end Go.Proofs.Ytnfhedmlifjlmaa.storeAgain
