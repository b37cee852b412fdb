/-
  IslandJoins: for every n and every list of links: the least ones that hang together, twice, as the document says them; what is handed in stays; each list has memory of its own. No condition.
-/
import Derived.Test.YtmphpmkhddnfdaaRows
import Derived.Test.YtmphpmkhddnfdaaIh
import Derived.WalkKit
import Derived.ProofKit
import Derived.OpenShut
import Derived.WalkLawsBesides
import Derived.WalkSpells
import Derived.Lib.SmallJoins
import Derived.Laws.Cover2
import Derived.Laws.AppendOwn
import Derived.Laws.IdiomArrays
import Derived.Deep.SlicePairs
import Derived.SizedLaws
import Derived.Below
import Derived.ChangeArms
namespace Go.Proofs.Ytmphpmkhddnfdaa.islandJoins
open Go.ChangeShapes Go.WideShapes Go.ChangeAt Go.RowKit Go.Joins
set_option linter.unusedVariables false
set_option linter.unusedSimpArgs false
theorem own : ownKnob Try.prog.godebug = none := by kernel_rfl
theorem laidOut : laidOutB Try.prog = true := by kernel_rfl
theorem trod_in {H : Type} {enc : TypeId × Value → H} {P : Program} {w : World} {base fuel : Nat} {spare : Nat → Bool} {held : Bool} {t : TypeId} {cs : List Value} {x : DataW H × List MemPlace} {k : IntKind} (ht : P.underlying t = some (.int k)) (h : DataW.trod enc P w base spare held fuel t cs = some x) : ∃ n, cs = [.int k n] ∧ (Lit.int k n).wf = true := by
  cases fuel with
  | zero => simp [DataW.trod] at h
  | succ n =>
    unfold DataW.trod at h
    rw [ht] at h
    split at h <;> simp_all
theorem cellsI : Try.prog.cellsOf 3 = 1 := by kernel_rfl
theorem cellsP : Try.prog.cellsOf 67 = 2 := by kernel_rfl
theorem list2 {α : Type} {l : List α} (h : l.length = 2) : ∃ c0 c1, l = [c0, c1] := by
  obtain _ | ⟨c0, l⟩ := l
  · simp at h
  obtain _ | ⟨c1, l⟩ := l
  · simp at h
  obtain _ | ⟨c, l⟩ := l
  · exact ⟨c0, c1, rfl⟩
  · simp at h
set_option maxRecDepth 100000 in
theorem open_pair {H : Type} {enc : TypeId × Value → H} {w : World} {base fuel : Nat} {spare : Nat → Bool} {held : Bool} {l : List Value} {x : DataW H × List MemPlace} (hl : l.length = 2) (h : DataW.trod enc Try.prog w base spare held fuel 67 l = some x) : ∃ a b : Int, l = [.int .i64 a, .int .i64 b] := by
  obtain ⟨c0, c1, rfl⟩ := list2 hl
  obtain ⟨az, n2, _, _, _, hla, hfa⟩ := DataW.trod_array Try.underlying67 h
  obtain ⟨b0, b1, rfl⟩ := list2 hla
  have s0 := hfa 0 (by decide)
  have s1 := hfa 1 (by decide)
  simp [cellsI] at s0 s1
  obtain ⟨a, e0, _⟩ := trod_in Try.underlying3 s0
  obtain ⟨b, e1, _⟩ := trod_in Try.underlying3 s1
  simp at e0 e1
  subst e0 e1
  exact ⟨_, _, rfl⟩
def IsP (W : World) (a : Option Addr) (len cap : Nat) : Prop := len ≤ cap ∧ cap ≤ maxLen ∧ len * 16 ≤ 140737488351232 ∧ (len = 0 ∨ ∃ b off A B, a = some ⟨b, off, none⟩ ∧ Prs W b off len A B)
theorem walk_any (n : Int) (a : Option Addr) (len cap : Nat) (w : World) (h : IsP w a len cap) : Calls Try.prog 4 #[.int .i64 n, .slice a len cap] w fun e w' => e = .returned (.bool true) ∧ Below w.heap.size w w' := by
  obtain ⟨hl, hm, hr, h⟩ := h
  rcases h with rfl | ⟨b, off, A, B, rfl, hP⟩
  · exact (ij_any n 0 0 0 cap a (fun _ => 0) (fun _ => 0) w (.inl rfl) hl hm (fun i hi => by omega) hr).mono fun e w' ⟨he, hb⟩ => ⟨he, hb.1⟩
  · exact (ij_any n b off len cap (some ⟨b, off, none⟩) A B w (.inr rfl) hl hm hP hr).mono fun e w' ⟨he, hb⟩ => ⟨he, hb.1⟩
set_option maxRecDepth 100000 in
theorem lifted (os : Os) (started : os.Started) (H : Type) (enc : TypeId × Value → H) :
    ReturnsInHanded {} Try.checked os 4 .any (Rows.islandJoinsSpec.pre6 enc Try.prog Try.f4 Rows.islandJoinsRow.domain false) (Rows.islandJoinsSpec.post enc Try.prog Try.f4 false true false false) := by
  refine returnsInHanded_of_change_sized (C := Try.checked) own started (by kernel_rfl) Try.func4
    (ChangeSpec.witness6 (enc := enc) (C := Try.checked) false ⟨#[], #[.int .i64 0, .slice none 0 0], []⟩ 8 (by kernel_rfl) (by kernel_rfl) (by kernel_rfl) (by kernel_rfl)) ?_
  intro W base args ds gs before hval0 hW hcnd hsz0 _
  have hsz : (DataW.weightsEach Try.prog (Try.f4.params.toList ++ Rows.islandJoinsSpec.plain.varTypes Try.prog) (ds ++ gs)).all (· ≤ reachBytes) = true := hsz0
  have hval : ∀ (j : Nat) t v, Try.f4.params[j]? = some t → args[j]? = some v → Value.okWide Try.prog W .any base t v := hval0
  have hW' := hW
  obtain ⟨p, q, hA0, hV, rfl, hfz, hnd⟩ := hW
  have hA : DataW.TrodAll enc Try.prog W 0 (fun _ => true) true Try.f4.params.toList args.toList ds p := hA0
  rw [Try.params4] at hA hval hsz
  obtain ⟨v0, vs0, d0, ds0, pl0, ql0, hargs, rfl, rfl, h0, r0⟩ := trodAll_cons hA
  obtain ⟨v1, vs1, d1, ds1, pl1, ql1, e1, rfl, rfl, h1, r1⟩ := trodAll_cons r0
  obtain ⟨rfl, rfl, rfl⟩ := trodAll_nil r1
  obtain rfl : args = #[v0, v1] := by cases args; simp_all
  obtain ⟨rfl, rfl⟩ := trodVars_none hV
  have k0 := h0
  have lt0 : ∀ x ∈ pl0, x.block < W.heap.size := by obtain ⟨m, hm⟩ := k0; exact DataW.trod_lt m _ _ _ hm
  obtain ⟨i_0, rfl, _, _, wi_0⟩ := open_int Try.underlying3 (hval 0 3 v0 rfl rfl) h0
  have k1 := h1
  have lt1 : ∀ x ∈ pl1, x.block < W.heap.size := by obtain ⟨m, hm⟩ := k1; exact DataW.trod_lt m _ _ _ hm
  obtain ⟨a1, len1, cap1, rfl⟩ := okWide_slice Try.underlying60 (hval 1 60 v1 rfl rfl)
  have w1 : IsP W a1 len1 cap1 := by
    obtain ⟨fuel, hf⟩ := h1
    rcases Go.Deep.open_slice Try.underlying60 hf with ⟨hcs, _⟩ | ⟨x, l, c, m, n, D, Pl, hcs, _, hl, hm, hmm, hx, hcell⟩
    · simp [Value.cells] at hcs
      obtain ⟨rfl, rfl, rfl⟩ := hcs
      exact ⟨Nat.le_refl _, by decide, by decide, .inl rfl⟩
    · simp [Value.cells] at hcs
      obtain ⟨rfl, rfl, rfl⟩ := hcs
      simp only [Prod.mk.injEq] at hx
      obtain ⟨rfl, rfl⟩ := hx
      have hr := sized_slice hsz (j := 1) (t := 60) (e := 67) rfl rfl Try.underlying60
      rw [show Try.prog.bytesOf 67 = 16 by kernel_rfl] at hr
      simp only [List.length_map, List.length_range, reachBytes] at hr
      have hlm : len1 ≤ m := by rw [hmm]; split <;> omega
      refine ⟨hl, hm, by omega, ?_⟩
      rcases Nat.eq_zero_or_pos len1 with h0' | h0'
      · exact .inl h0'
      right
      have V : ∀ i, ∃ q : Int × Int, i < len1 → ∀ j v, ([.int .i64 q.1, .int .i64 q.2] : List Value)[j]? = some v → W.cell? (x.add (i * 2 + j)) = some v := by
        intro i
        by_cases hi : i < len1
        · obtain ⟨cs', g1, g2⟩ := hcell i (by omega)
          rw [cellsP] at g1
          obtain ⟨_, hlen, hce⟩ := World.cells?_some g1
          obtain ⟨a, b, hL⟩ := open_pair (l := cs') hlen g2
          subst hL
          refine ⟨(a, b), fun _ j v hj => ?_⟩
          have hj2 : j < 2 := (List.getElem?_eq_some_iff.1 hj).1
          have g3 := hce j hj2
          rw [Go.Deep.add_add] at g3
          rw [g3]
          exact hj
        · exact ⟨(0, 0), fun h => absurd h hi⟩
      obtain ⟨f, hf'⟩ := Classical.axiomOfChoice V
      obtain ⟨b, off, spot⟩ := x
      have hspot : spot = none := by
        have g4 := hf' 0 h0' 0 _ rfl
        simpa [Addr.add] using World.cell?_spot g4
      subst hspot
      refine ⟨b, off, fun i => (f i).1, fun i => (f i).2, rfl, fun i hi j v hj => ?_⟩
      have g5 := hf' i hi j v hj
      rw [add_plain, ← Nat.add_assoc] at g5
      exact g5
  clear hA0 hval0 hsz0
  refine (walk_any i_0 a1 len1 cap1 W w1).mono fun e W' ⟨he, bel0⟩ => ?_
  have bel := bel0
  subst he
  exact ⟨_, rfl, _, _, _, [], _, [], hW', trodAll_mk1 (shut_bool Try.underlying4 _), (trodAll_cons_mk (Below.trod laidOut (by kernel_rfl) (of_decide_eq_true (by kernel_rfl)) k0 bel lt0) (trodAll_cons_mk (Below.trod laidOut (by kernel_rfl) (of_decide_eq_true (by kernel_rfl)) k1 bel lt1) trodAll_mk0)), rfl, bel.frame _, fun h => by cases h⟩

theorem over : Rows.islandJoinsRow.holds Try.pinned (OpenSpec.ofChange Rows.islandJoinsSpec) :=
  OpenClaim.holds_of_wide 4 Try.f4 rfl rfl rfl rfl rfl rfl rfl ⟨rfl, rfl, rfl, rfl, rfl⟩ rfl rfl rfl rfl rfl (by kernel_rfl) Try.func4 (by kernel_rfl)
    (of_decide_eq_true (by kernel_rfl)) (by unfold Func.isWrapper; first | (rw [if_pos (by decide +kernel)]; kernel_rfl) | (rw [if_neg (by decide +kernel)]; exact ⟨rfl, rfl⟩))
    (fun os started H enc _ => lifted os started H enc)

theorem proved : Rows.IslandJoinsSaid :=
  over
#print axioms proved
end Go.Proofs.Ytmphpmkhddnfdaa.islandJoins
