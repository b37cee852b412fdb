/-
  NumSums: num.Sum of any floats is the sum from the left as the chapter's reference has it, and what is handed in stays; for every list of floats, no condition.
-/
import Derived.Test.YtpehgaojjfobeaaRows
import Derived.Test.YtpehgaojjfobeaaSums
import Derived.WalkKit
import Derived.ProofKit
import Derived.OpenShut
import Derived.WalkLawsBesides
import Derived.WalkSpells
import Derived.Deep.RegionWith
import Derived.ShutString
import Derived.ChangeOld
import Derived.Below
import Derived.SizedLaws
namespace Go.Proofs.Ytpehgaojjfobeaa.numSums
open Go.ChangeShapes Go.WideShapes Go.ChangeAt Go.RowKit
open Go.ChangeMaps (open_string shut_string)
set_option linter.unusedVariables false

theorem own : ownKnob Try.prog.godebug = none := by kernel_rfl
theorem laidOut : laidOutB Try.prog = true := by kernel_rfl

/-- WHAT THE WALK IS TOLD OF A SLICE OF INTEGERS THAT CAME IN: it is nil; or it leads to a row of 'cap' cells, the numbers 'zs' (the first 'len' are its elements, the rest its spare room), each fitting its kind. -/
def IsRow (k : IntKind) (by8 : Nat) (w : World) (a : Option Addr) (len cap : Nat) (zs : List Int) : Prop :=
  (a = none ∧ len = 0 ∧ cap = 0 ∧ zs = []) ∨
  ∃ x, a = some x ∧ len ≤ cap ∧ cap ≤ maxLen ∧ zs.length = cap ∧ cap * by8 ≤ 140737488351232 ∧ (∀ i, i < zs.length → w.cell? (x.add i) = some (.int k (zs.getD i 0))) ∧ ∀ n ∈ zs, (Lit.int k n).wf = true

theorem lt_of_cell {w : World} {a : Addr} {v : Value} (h : w.cell? a = some v) : a.block < w.heap.size := by
  unfold World.cell? at h
  rcases Nat.lt_or_ge a.block w.heap.size with h1 | h1
  · exact h1
  · rw [Array.getElem?_eq_none h1] at h; simp at h

theorem u64_nat {z : Int} (h : (Lit.int .u64 z).wf = true) : z = ((z.toNat : Nat) : Int) ∧ okK .f64 z.toNat := by
  obtain ⟨n, rfl, hn⟩ := wf_u64 h
  exact ⟨by simp, by simpa using hn⟩

set_option maxHeartbeats 2000000 in
theorem walk_some (b off n cap : Nat) (xs : Nat → Nat) (w : World) (hreach : (n + 1) * 8 ≤ 140737488351232) (hb : b < w.heap.size) (ho : ∀ j, j < n + 1 → okK .f64 (xs j))
    (hc : ∀ j, j < n + 1 → w.cell? ⟨b, off + j, none⟩ = some (.int .u64 ((xs j : Nat) : Int))) :
    Calls Try.prog 8 #[.slice (some ⟨b, off, none⟩) (n + 1) cap] w fun e w' => e = .returned (.bool true) ∧ Below w.heap.size w w' := by
  obtain ⟨i0, hi, hz0, hz1, hz2⟩ := info_parts info_float
  have c1 := cmp_eq .f64
  have c77 : eqK .f64 4635118810238550016 4635118810238550016 = true := by decide +kernel
  go_enter Try.func8, Try.ntmps8
  go_wp2_with fail
  refine (floats_some b off (n + 1) cap xs _ hreach hb hc).mono ?_
  rintro e w1 ⟨v1, rfl, own1, bel1⟩
  have hc1 : ∀ j, j < n + 1 → w1.cell? ⟨b, off + j, none⟩ = some (.int .u64 ((xs j : Nat) : Int)) := fun j hj => (bel1.cell (by exact hb)).trans (hc j hj)
  have hb1 : b < w1.heap.size := Nat.lt_of_lt_of_le hb bel1.size
  go_wp2_with fail
  refine (floats_some b off (n + 1) cap xs _ hreach hb1 hc1).mono ?_
  rintro e w2 ⟨v2, rfl, own2, bel2⟩
  have hsz2 := bel2.size
  go_wp2_with (first
    | (at_builtin; refine wpList_append_own _ rfl _ _ 61 rfl w1.heap.size 22 i0 (.float .f64 0) 1 8 Try.underlying61 hi hz0 hz1 hz2 rfl (by decide) _ _ _ rfl (own2.alloc _) ⟨w2.heap.size, 0, none⟩ 1 1 [.float .f64 4635118810238550016] rfl rfl ?c1 ?c2 ?c3 ?c4 ?c5 ?_)
    | go_in)
  case c1 =>
    intro j u hj
    match j, hj with
    | 0, hj => simp at hj; subst hj; simp [Addr.add]
  case c2 => intro u hu; simp at hu; subst hu; rfl
  case c3 => unfold maxLen; omega
  case c4 => omega
  case c5 => simp; omega
  intro v3 w3 own3 hgrow _
  have bel3 : Below w1.heap.size w1 w3 := (bel2.alloc hsz2 _).grown hgrow (by simp; omega) fun j hj => (own2.lt j hj).1
  have bel : Below w.heap.size w w3 := bel1.trans (bel3.mono bel1.size)
  obtain ⟨g, cap3, hv3, hcap3, hrow3⟩ : ∃ g cap3, v3 = .slice (some ⟨g, 0, none⟩) (n + 1 + 1) cap3 ∧ n + 1 + 1 ≤ cap3 ∧ ∀ j, j < n + 1 + 1 → w3.cell? ⟨g, j, none⟩ = (flRow xs (n + 1) ++ [.float .f64 4635118810238550016])[j]? := by
    have hh := own3
    rcases own3.2 with ⟨_, h⟩ | ⟨g, cap3, cur, hv, _, _, hle, _⟩
    · omega
    · subst hv
      exact ⟨g, cap3, rfl, hle, fun j hj => hh.cellAt j (by omega)⟩
  obtain ⟨g1, cap1, hv1, hrow1⟩ : ∃ g1 cap1, v1 = .slice (some ⟨g1, 0, none⟩) (n + 1) cap1 ∧ ∀ j, j < n + 1 → w3.cell? ⟨g1, 0 + j, none⟩ = some (.float .f64 (xs j)) := by
    have hh := own1
    rcases own1.2 with ⟨_, h⟩ | ⟨g, cap3, cur, hv, _, hbk, _, _⟩
    · omega
    · subst hv
      refine ⟨g, cap3, rfl, fun j hj => ?_⟩
      have hg : g < w1.heap.size := by
        rcases Nat.lt_or_ge g w1.heap.size with h | h
        · exact h
        · rw [Array.getElem?_eq_none h] at hbk; cases hbk
      rw [Nat.zero_add, bel3.cell (p := ⟨g, j, none⟩) hg, hh.cellAt j (by omega), flRow_get xs (n + 1) j hj]
  have hr3 : ∀ j, j < n + 1 → w3.cell? ⟨g, 0 + j, none⟩ = some (.float .f64 (xs j)) := fun j hj => by
    rw [Nat.zero_add, hrow3 j (by omega), List.getElem?_append_left (by rw [flRow_length]; exact hj), flRow_get xs (n + 1) j hj]
  have h77 : w3.cell? ⟨g, n + 1, none⟩ = some (.float .f64 4635118810238550016) := by
    rw [hrow3 (n + 1) (by omega), List.getElem?_append_right (by rw [flRow_length]; exact Nat.le_refl _), flRow_length]; simp
  clear hrow3 own1 own2 own3 hgrow bel1 bel2 bel3 hc hc1
  rw [hv3, hv1]
  have hml : n + 1 ≤ maxLen := by unfold maxLen; omega
  go_wp2_with fail
  refine (sum_some g 0 n cap3 xs _ hml (by omega) hr3).mono ?_
  rintro e w' ⟨s, m, hs, rfl, rfl⟩
  go_wp2_with fail
  refine (rsum_some g1 0 n cap1 xs _ hml (by exact hrow1)).mono ?_
  rintro e w' ⟨t, m', ht, rfl, rfl⟩
  have hsm := acc_same hs ht
  have hos := acc_ok (ho 0 (by omega)) hs
  have hot := acc_ok (ho 0 (by omega)) ht
  go_wp2_with fail
  refine (rSame_any _ _ _ hos hot).mono ?_
  rintro e w' ⟨rfl, rfl⟩
  go_wp2_with fail
  refine (sameAll_some g 0 (n + 1) cap3 g1 0 cap1 xs _ hml ho (by exact hr3) (by exact hrow1)).mono ?_
  rintro e w' ⟨m2, rfl, rfl⟩
  go_wp2
  go_ret
  exact ⟨rfl, ⟨bel.os, bel.tape, bel.output, bel.size, bel.block⟩⟩

set_option maxHeartbeats 2000000 in
theorem walk_none (a : Option Addr) (cap : Nat) (w : World) :
    Calls Try.prog 8 #[.slice a 0 cap] w fun e w' => e = .returned (.bool true) ∧ Below w.heap.size w w' := by
  obtain ⟨i0, hi, hz0, hz1, hz2⟩ := info_parts info_float
  have c1 := cmp_eq .f64
  have c77 : eqK .f64 4635118810238550016 4635118810238550016 = true := by decide +kernel
  have o0 : okK .f64 0 := by rw [okK64]; omega
  have s6 := smK_self .f64
  go_enter Try.func8, Try.ntmps8
  go_wp2_with fail
  refine (floats_none a cap _).mono ?_
  rintro e wa ⟨rfl, rfl⟩
  go_wp2_with fail
  refine (floats_none a cap _).mono ?_
  rintro e wb ⟨rfl, rfl⟩
  have own2 := World.ownsRow_nil wb wb.heap.size 22 1
  go_wp2_with (first
    | (at_builtin; refine wpList_append_own _ rfl _ _ 61 rfl wb.heap.size 22 i0 (.float .f64 0) 1 8 Try.underlying61 hi hz0 hz1 hz2 rfl (by decide) _ _ _ rfl (own2.alloc _) ⟨wb.heap.size, 0, none⟩ 1 1 [.float .f64 4635118810238550016] rfl rfl ?c1 ?c2 ?c3 ?c4 ?c5 ?_)
    | go_in)
  case c1 =>
    intro j u hj
    match j, hj with
    | 0, hj => simp at hj; subst hj; simp [Addr.add]
  case c2 => intro u hu; simp at hu; subst hu; rfl
  case c3 => unfold maxLen; omega
  case c4 => omega
  case c5 => simp
  intro v3 w3 own3 hgrow _
  have bel : Below wb.heap.size wb w3 := ((Below.refl wb.heap.size wb).alloc (Nat.le_refl _) _).grown hgrow (by simp) fun j hj => (own2.lt j hj).1
  obtain ⟨g, cap3, hv3, hcap3, h77⟩ : ∃ g cap3, v3 = .slice (some ⟨g, 0, none⟩) 1 cap3 ∧ 1 ≤ cap3 ∧ w3.cell? ⟨g, 0, none⟩ = some (.float .f64 4635118810238550016) := by
    have hh := own3
    rcases own3.2 with ⟨_, h⟩ | ⟨g, cap3, cur, hv, _, _, hle, _⟩
    · omega
    · subst hv
      exact ⟨g, cap3, rfl, by omega, by rw [hh.cellAt 0 (by omega)]; rfl⟩
  clear own2 own3 hgrow
  rw [hv3]
  go_wp2_with fail
  refine (sum_none _ _ _).mono ?_
  rintro e w' ⟨rfl, rfl⟩
  go_wp2_with fail
  refine (rsum_none _ _ _).mono ?_
  rintro e w' ⟨rfl, rfl⟩
  go_wp2_with fail
  refine (rSame_any _ _ _ o0 o0).mono ?_
  rintro e w' ⟨rfl, rfl⟩
  go_wp2_with fail
  refine (sameAll_none _ _ _ _ _).mono ?_
  rintro e w' ⟨rfl, rfl⟩
  go_wp2
  go_ret
  exact ⟨rfl, bel⟩

theorem walk (a0 : Option Addr) (len0 cap0 : Nat) (z0 : List Int) (w : World) (w0 : IsRow .u64 8 w a0 len0 cap0 z0) :
    Calls Try.prog 8 #[.slice a0 len0 cap0] w fun e w' => e = .returned (.bool true) ∧ Below w.heap.size w w' := by
  rcases w0 with ⟨rfl, rfl, rfl, rfl⟩ | ⟨x, rfl, hl, hm, hz, hr, hcell, hwf⟩
  · exact walk_none _ _ _
  · cases len0 with
    | zero => exact walk_none _ _ _
    | succ n =>
      obtain ⟨b, off, spot⟩ := x
      have hspot : spot = none := by simpa [Addr.add] using World.cell?_spot (hcell 0 (by omega))
      subst hspot
      have hc0 := hcell 0 (by omega)
      have hb : b < w.heap.size := by
        have := lt_of_cell hc0
        simpa [Addr.add] using this
      have hu : ∀ j, j < n + 1 → z0.getD j 0 = (((z0.getD j 0).toNat : Nat) : Int) ∧ okK .f64 (z0.getD j 0).toNat := by
        intro j hj
        apply u64_nat
        apply hwf
        rw [List.getD_eq_getElem?_getD, List.getElem?_eq_getElem (by omega)]
        simp
      refine walk_some b off n cap0 (fun j => (z0.getD j 0).toNat) w (by omega) hb (fun j hj => (hu j hj).2) fun j hj => ?_
      have := hcell j (by omega)
      rw [(hu j hj).1, add_plain] at this
      exact this

set_option maxRecDepth 100000 in
theorem lifted (os : Os) (started : os.Started) (H : Type) (enc : TypeId × Value → H) :
    ReturnsInHanded {} Try.checked os 8 .any (Rows.numSumsSpec.pre6 enc Try.prog Try.f8 Rows.numSumsRow.domain false) (Rows.numSumsSpec.post enc Try.prog Try.f8 false true false false) := by
  refine returnsInHanded_of_change_sized (C := Try.checked) own started (by kernel_rfl) Try.func8
    (ChangeSpec.witness6 (enc := enc) (C := Try.checked) false ⟨#[], #[.slice none 0 0], []⟩ 8 (by kernel_rfl) (by kernel_rfl) (by kernel_rfl) (by kernel_rfl)) ?_
  intro W base args ds gs before hval0 hW hcnd hsz0 _
  have hsz : (DataW.weightsEach Try.prog (Try.f8.params.toList ++ Rows.numSumsSpec.plain.varTypes Try.prog) (ds ++ gs)).all (· ≤ reachBytes) = true := hsz0
  have hval : ∀ (j : Nat) t v, Try.f8.params[j]? = some t → args[j]? = some v → Value.okWide Try.prog W .any base t v := hval0
  have hW' := hW
  obtain ⟨p, q, hA0, hV, rfl, hfz, hnd⟩ := hW
  have hA : DataW.TrodAll enc Try.prog W 0 (fun _ => true) true Try.f8.params.toList args.toList ds p := hA0
  rw [Try.params8] at hA hval hsz
  obtain ⟨v0, vs0, d0, ds0, p0, q0, hargs, rfl, rfl, h0, r0⟩ := trodAll_cons hA
  obtain ⟨rfl, rfl, rfl⟩ := trodAll_nil r0
  obtain rfl : args = #[v0] := by cases args; simp_all
  obtain ⟨rfl, rfl⟩ := trodVars_none hV
  obtain ⟨a0, len0, cap0, rfl⟩ := okWide_slice Try.underlying60 (hval 0 60 v0 rfl rfl)
  have k0 := h0
  have lt0 : ∀ x ∈ p0, x.block < W.heap.size := by obtain ⟨m, hm⟩ := k0; exact DataW.trod_lt m _ _ _ hm
  obtain ⟨z0, w0⟩ : ∃ zs, IsRow .u64 8 W a0 len0 cap0 zs := by
    obtain ⟨fuel, hf⟩ := h0
    rcases open_ints Try.underlying60 Try.underlying32 (by kernel_rfl) hf with ⟨hcs, _⟩ | ⟨x, l, c, zs, hcs, _, hl, hm, hz, hx, hcell, hwz⟩
    · simp [Value.cells] at hcs
      obtain ⟨rfl, rfl, rfl⟩ := hcs
      exact ⟨[], .inl ⟨rfl, rfl, rfl, rfl⟩⟩
    · simp [Value.cells] at hcs
      obtain ⟨rfl, rfl, rfl⟩ := hcs
      simp only [Prod.mk.injEq] at hx
      obtain ⟨rfl, rfl⟩ := hx
      have hz' : zs.length = cap0 := by simpa using hz
      have hr := sized_slice hsz (j := 0) (t := 60) (e := 32) rfl rfl Try.underlying60
      rw [show Try.prog.bytesOf 32 = 8 by kernel_rfl] at hr
      simp only [lits, List.length_map, List.length_take, List.length_drop, reachBytes] at hr
      exact ⟨zs, .inr ⟨_, rfl, hl, hm, hz', by omega, hcell, hwz⟩⟩
  clear hA0 hval0 hsz0
  refine (walk a0 len0 cap0 z0 W w0).mono fun e W' ⟨he, bel⟩ => ?_
  subst he
  exact ⟨_, rfl, _, _, _, [], _, [], hW', trodAll_mk1 (shut_bool Try.underlying4 _), (trodAll_cons_mk (Below.trod laidOut (by kernel_rfl) (of_decide_eq_true (by kernel_rfl)) k0 bel lt0) trodAll_mk0), rfl, bel.frame _, fun h => by cases h⟩

theorem over : Rows.numSumsRow.holds Try.pinned (OpenSpec.ofChange Rows.numSumsSpec) :=
  OpenClaim.holds_of_wide 8 Try.f8 rfl rfl rfl rfl rfl rfl rfl ⟨rfl, rfl, rfl, rfl, rfl⟩ rfl rfl rfl rfl rfl (by kernel_rfl) Try.func8 (by kernel_rfl)
    (of_decide_eq_true (by kernel_rfl)) (by unfold Func.isWrapper; first | (rw [if_pos (by decide +kernel)]; kernel_rfl) | (rw [if_neg (by decide +kernel)]; exact ⟨rfl, rfl⟩))
    (fun os started H enc _ => lifted os started H enc)

theorem proved : Rows.NumSumsSaid := over
#print axioms proved
end Go.Proofs.Ytpehgaojjfobeaa.numSums
