/-
  What each function of package island that Join reaches answers, and what the reference of its chapter answers: one contract a function.
-/
import Derived.Test.YtmphpmkhddnfdaaIb
import Derived.Test.YtmphpmkhddnfdaaBel
import Derived.Test.YtmphpmkhddnfdaaChecked
import Derived.Below
import Derived.OwnWalk
import Derived.Laws.AppendOwn
import Derived.Lib.SliceRun
import Derived.Laws.MakeOwn
import Derived.WalkKit
import Derived.WalkLawsBesides
import Derived.WalkSpells
import Derived.ProofKit
import Derived.OpenShut
import Derived.Deep.RegionHeld3
import Derived.Deep.MidRow
import Derived.Laws.EntriesVeiled
import Derived.BigQuiet
import Derived.ChangeKeysEq
namespace Go.Proofs.Ytmphpmkhddnfdaa
open Go.ChangeShapes Go.WideShapes Go.ChangeAt Go.RowKit
set_option linter.unusedVariables false
set_option linter.unusedSimpArgs false

def IntR (w : World) (b off n : Nat) (X : Nat → Int) : Prop := ∀ i, i < n → w.cell? ⟨b, off + i, none⟩ = some (.int .i64 (X i))
theorem IntR.bel {w w' : World} {b off n : Nat} {X : Nat → Int} (h : IntR w b off n X) (g : Bel w w') : IntR w' b off n X := fun i hi => keep g (h i hi)
theorem IntM.r {w : World} {b n : Nat} {X : Nat → Int} (h : IntM w b n X) : IntR w b 0 n X := fun i hi => by rw [Nat.zero_add]; exact h.at_ i hi
set_option maxRecDepth 100000 in
set_option maxHeartbeats 4000000 in
theorem sameI_w (ab ao ac_ bb bo bc_ n : Nat) (a_s b_s : Option Addr) (X Y : Nat → Int) (w : World) (has : n = 0 ∨ a_s = some ⟨ab, ao, none⟩) (hac : n ≤ ac_) (hbs : n = 0 ∨ b_s = some ⟨bb, bo, none⟩) (hbc : n ≤ bc_) (hm : n ≤ 1000000) (ha : IntR w ab ao n X) (hb : IntR w bb bo n Y) (he : ∀ i, i < n → X i = Y i) : Calls Try.prog 15 #[.slice a_s n ac_, .slice b_s n bc_] w fun e w' => e = .returned (.bool true) ∧ Bel w w' := by
  have hnn : (((n : Nat) : Int) == (n : Int)) = true := by simp
  go_enter Try.func15, Try.ntmps15
  repeat (first | go_values | go_skip | go_guarded | go_step | go_upon | go_back | dsimp only)
  go_loopw [5] (fun i wr => ∃ k : Nat, k ≤ n ∧ i = .int .i64 k ∧ Bel w wr) (fun i _ => n - (intOf i).toNat)
  case atStart => exact ⟨0, by omega, rfl, bl_refl _⟩
  case round =>
    obtain ⟨k, hk, rfl, hB⟩ := hrel
    by_cases hlt : k < n
    · have e9 : a_s = some ⟨ab, ao, none⟩ := by rcases has with h | h; omega; exact h
      have e8 : b_s = some ⟨bb, bo, none⟩ := by rcases hbs with h | h; omega; exact h
      subst e8 e9
      have hkI : (k : Int) < (n : Int) := by omega
      have ka : wr.cell? ⟨ab, ao + k, none⟩ = some (.int .i64 (Y k)) := by rw [← he k hlt]; exact (ha.bel hB) k hlt
      have kb : wr.cell? ⟨bb, bo + k, none⟩ = some (.int .i64 (Y k)) := (hb.bel hB) k hlt
      have hyy : (Y k == Y k) = true := by simp
      repeat (first | go_values | go_skip | go_guarded | go_step | go_upon | go_back | dsimp only)
      refine wp_region_gen 9 rfl (fun iq v => match iq with | 0 => v = .slice (some ⟨ab, ao, none⟩) n ac_ | 1 => v = .int .i64 (k : Int) | 2 => v = .pointer (some ⟨ab, ao + k, none⟩) | 3 => v = .int .i64 (Y k) | 4 => v = .slice (some ⟨bb, bo, none⟩) n bc_ | 5 => v = .int .i64 (k : Int) | 6 => v = .pointer (some ⟨bb, bo + k, none⟩) | 7 => v = .int .i64 (Y k) | 8 => v = .bool false | _ => False) (fun _ W => Bel wr W) ?A_si (by kernel_rfl) (by kernel_rfl) ?hA_si ?h0_si ?hG_si ?hq_si ?ht_si
      case hA_si =>
        intro s
        simp only [putL, dstO, Act.put, List.getElem?_toArray, List.getElem?_cons_zero, List.getElem?_cons_succ, Option.bind_some, Option.bind_none, List.setIfInBounds_toArray, List.set_cons_zero, List.set_cons_succ, if_true]
        all_goals exact rfl
      case h0_si => exact (bl_drew (bl_refl wr))
      case hG_si => exact fun L L' W hL h => h
      case hq_si =>
        intro iq o hi ho L s W hLd hsh hs hg hLi K hK
        have ua := keep hg ka
        have ub := keep hg kb
        rcases (show iq = 0 ∨ iq = 1 ∨ iq = 2 ∨ iq = 3 ∨ iq = 4 ∨ iq = 5 ∨ iq = 6 ∨ iq = 7 ∨ iq = 8 by omega) with rfl | rfl | rfl | rfl | rfl | rfl | rfl | rfl | rfl
        · cases ho
          simp only [Act.put, List.setIfInBounds_toArray, List.set_cons_zero, List.set_cons_succ] at hK
          clear hs
          go_simp
          all_goals first | with_reducible exact hK.out _ _ rfl hg | exact hK.out _ _ rfl hg
        · cases ho
          simp only [Act.put, List.setIfInBounds_toArray, List.set_cons_zero, List.set_cons_succ] at hK
          clear hs
          go_simp
          all_goals first | with_reducible exact hK.out _ _ rfl hg | exact hK.out _ _ rfl hg
        · cases ho
          have e0 : s 0 = _ := hs 0 (by decide) (by kernel_rfl)
          have e1 : s 1 = _ := hs 1 (by decide) (by kernel_rfl)
          simp only [e0, e1] at hK ⊢
          simp only [Act.put, List.setIfInBounds_toArray, List.set_cons_zero, List.set_cons_succ] at hK
          clear hs
          go_simp
          all_goals first | with_reducible exact hK.out _ _ rfl hg | exact hK.out _ _ rfl hg
        · cases ho
          have e2 : s 2 = _ := hs 2 (by decide) (by kernel_rfl)
          simp only [e2] at hK ⊢
          simp only [Act.put, List.setIfInBounds_toArray, List.set_cons_zero, List.set_cons_succ] at hK
          clear hs
          go_simp
          all_goals first | with_reducible exact hK.out _ _ rfl hg | exact hK.out _ _ rfl hg
        · cases ho
          simp only [Act.put, List.setIfInBounds_toArray, List.set_cons_zero, List.set_cons_succ] at hK
          clear hs
          go_simp
          all_goals first | with_reducible exact hK.out _ _ rfl hg | exact hK.out _ _ rfl hg
        · cases ho
          simp only [Act.put, List.setIfInBounds_toArray, List.set_cons_zero, List.set_cons_succ] at hK
          clear hs
          go_simp
          all_goals first | with_reducible exact hK.out _ _ rfl hg | exact hK.out _ _ rfl hg
        · cases ho
          have e4 : s 4 = _ := hs 4 (by decide) (by kernel_rfl)
          have e5 : s 5 = _ := hs 5 (by decide) (by kernel_rfl)
          simp only [e4, e5] at hK ⊢
          simp only [Act.put, List.setIfInBounds_toArray, List.set_cons_zero, List.set_cons_succ] at hK
          clear hs
          go_simp
          all_goals first | with_reducible exact hK.out _ _ rfl hg | exact hK.out _ _ rfl hg
        · cases ho
          have e6 : s 6 = _ := hs 6 (by decide) (by kernel_rfl)
          simp only [e6] at hK ⊢
          simp only [Act.put, List.setIfInBounds_toArray, List.set_cons_zero, List.set_cons_succ] at hK
          clear hs
          go_simp
          all_goals first | with_reducible exact hK.out _ _ rfl hg | exact hK.out _ _ rfl hg
        · cases ho
          have e3 : s 3 = _ := hs 3 (by decide) (by kernel_rfl)
          have e7 : s 7 = _ := hs 7 (by decide) (by kernel_rfl)
          simp only [e3, e7] at hK ⊢
          simp only [Act.put, List.setIfInBounds_toArray, List.set_cons_zero, List.set_cons_succ] at hK
          clear hs
          go_simp
          all_goals first | with_reducible exact hK.out _ _ rfl hg | exact hK.out _ _ rfl hg
      case ht_si =>
        intro s hs W hg
        have e0 : s 0 = _ := hs 0 (by decide)
        have e1 : s 1 = _ := hs 1 (by decide)
        have e2 : s 2 = _ := hs 2 (by decide)
        have e3 : s 3 = _ := hs 3 (by decide)
        have e4 : s 4 = _ := hs 4 (by decide)
        have e5 : s 5 = _ := hs 5 (by decide)
        have e6 : s 6 = _ := hs 6 (by decide)
        have e7 : s 7 = _ := hs 7 (by decide)
        have e8 : s 8 = _ := hs 8 (by decide)
        simp only [e0, e1, e2, e3, e4, e5, e6, e7, e8]
        clear hs e0 e1 e2 e3 e4 e5 e6 e7 e8
        repeat (first | go_values | go_skip | go_guarded | go_step | go_upon | go_back | dsimp only)
        exact ⟨⟨k + 1, by omega, by first | go_num | rfl, bl_trans hB hg⟩, by simp [intOf]; omega⟩
    · have hkn : k = n := by omega
      subst hkn
      repeat (first | go_values | go_skip | go_guarded | go_step | go_upon | go_back | dsimp only)
      go_ret
      exact ⟨rfl, hB⟩

theorem cellsI3 : Try.prog.cellsOf 3 = 1 := by kernel_rfl
theorem part_int (xs : Array Value) (o : Nat) (k : Int) (W : World) (h : xs[o]? = some (.int .i64 k)) : (part 3 xs o).run Try.prog W = .ok (.int .i64 k) W := by
  unfold part
  simp [go_sem, h]
theorem run_eq2 (a b c d : Int) (W : World) : (Op.equalIn 10000 67 (.agg #[.int .i64 a, .int .i64 b]) (.agg #[.int .i64 c, .int .i64 d])).run Try.prog W = .ok (a == c && b == d) W := by
  have hi : Try.prog.info? 3 = some Try.t3 := by kernel_rfl
  have q0 := fun (e : Nat) (xs ys : Array Value) => run_equalIn_array (P := Try.prog) (w := W) e xs ys Try.underlying67 hi
  rw [q0]
  have p0 := part_int #[.int .i64 a, .int .i64 b] 0 a W rfl
  have p1 := part_int #[.int .i64 a, .int .i64 b] 1 b W rfl
  have p2 := part_int #[.int .i64 c, .int .i64 d] 0 c W rfl
  have p3 := part_int #[.int .i64 c, .int .i64 d] 1 d W rfl
  cases h1 : a == c <;> cases h2 : b == d <;> simp [go_sem, List.range_succ, Op.eqItems, cellsI3, p0, p1, p2, p3, h1, h2]
set_option maxRecDepth 100000 in
set_option maxHeartbeats 4000000 in
theorem sameP_w (ab ao ac_ bb bo bc_ n : Nat) (a_s b_s : Option Addr) (A B A2 B2 : Nat → Int) (w : World) (has : n = 0 ∨ a_s = some ⟨ab, ao, none⟩) (hac : n ≤ ac_) (hbs : n = 0 ∨ b_s = some ⟨bb, bo, none⟩) (hbc : n ≤ bc_) (hm : n ≤ 9223372036854775807) (ha : Prs w ab ao n A B) (hb : Prs w bb bo n A2 B2) (he : ∀ i, i < n → A i = A2 i ∧ B i = B2 i) : Calls Try.prog 17 #[.slice a_s n ac_, .slice b_s n bc_] w fun e w' => e = .returned (.bool true) ∧ Bel w w' := by
  have hnn : (((n : Nat) : Int) == (n : Int)) = true := by simp
  have q2 := run_eq2
  go_enter Try.func17, Try.ntmps17
  repeat (first | go_values | go_skip | go_guarded | go_step | go_upon | go_back | dsimp only)
  go_loopw [5] (fun i wr => ∃ k : Nat, k ≤ n ∧ i = .int .i64 k ∧ Bel w wr) (fun i _ => n - (intOf i).toNat)
  case atStart => exact ⟨0, by omega, rfl, bl_refl _⟩
  case round =>
    obtain ⟨k, hk, rfl, hB⟩ := hrel
    by_cases hlt : k < n
    · have e9 : a_s = some ⟨ab, ao, none⟩ := by rcases has with h | h; omega; exact h
      have e8 : b_s = some ⟨bb, bo, none⟩ := by rcases hbs with h | h; omega; exact h
      subst e8 e9
      have hkI : (k : Int) < (n : Int) := by omega
      have ka : wr.rangeAt ab (ao + k * 2) [.int .i64 (A2 k), .int .i64 (B2 k)] := by have h := (ha.bel hB) k hlt; rwa [(he k hlt).1, (he k hlt).2] at h
      have kb : wr.rangeAt bb (bo + k * 2) [.int .i64 (A2 k), .int .i64 (B2 k)] := (hb.bel hB) k hlt
      have hy1 : (A2 k == A2 k) = true := by simp
      have hy2 : (B2 k == B2 k) = true := by simp
      repeat (first | go_values | go_skip | go_guarded | go_step | go_upon | go_back | dsimp only)
      refine wp_region_gen 9 rfl (fun iq v => match iq with | 0 => v = .slice (some ⟨ab, ao, none⟩) n ac_ | 1 => v = .int .i64 (k : Int) | 2 => v = .pointer (some ⟨ab, ao + k * 2, none⟩) | 3 => v = .agg #[.int .i64 (A2 k), .int .i64 (B2 k)] | 4 => v = .slice (some ⟨bb, bo, none⟩) n bc_ | 5 => v = .int .i64 (k : Int) | 6 => v = .pointer (some ⟨bb, bo + k * 2, none⟩) | 7 => v = .agg #[.int .i64 (A2 k), .int .i64 (B2 k)] | 8 => v = .bool false | _ => False) (fun _ W => Bel wr W) ?A_sp (by kernel_rfl) (by kernel_rfl) ?hA_sp ?h0_sp ?hG_sp ?hq_sp ?ht_sp
      case hA_sp =>
        intro s
        simp only [putL, dstO, Act.put, List.getElem?_toArray, List.getElem?_cons_zero, List.getElem?_cons_succ, Option.bind_some, Option.bind_none, List.setIfInBounds_toArray, List.set_cons_zero, List.set_cons_succ, if_true]
        all_goals exact rfl
      case h0_sp => exact (bl_drew (bl_refl wr))
      case hG_sp => exact fun L L' W hL h => h
      case hq_sp =>
        intro iq o hi ho L s W hLd hsh hs hg hLi K hK
        have ua := rng_bel ka hg
        have ub := rng_bel kb hg
        rcases (show iq = 0 ∨ iq = 1 ∨ iq = 2 ∨ iq = 3 ∨ iq = 4 ∨ iq = 5 ∨ iq = 6 ∨ iq = 7 ∨ iq = 8 by omega) with rfl | rfl | rfl | rfl | rfl | rfl | rfl | rfl | rfl
        · cases ho
          simp only [Act.put, List.setIfInBounds_toArray, List.set_cons_zero, List.set_cons_succ] at hK
          clear hs
          go_simp
          all_goals first | with_reducible exact hK.out _ _ rfl hg | exact hK.out _ _ rfl hg
        · cases ho
          simp only [Act.put, List.setIfInBounds_toArray, List.set_cons_zero, List.set_cons_succ] at hK
          clear hs
          go_simp
          all_goals first | with_reducible exact hK.out _ _ rfl hg | exact hK.out _ _ rfl hg
        · cases ho
          have e0 : s 0 = _ := hs 0 (by decide) (by kernel_rfl)
          have e1 : s 1 = _ := hs 1 (by decide) (by kernel_rfl)
          simp only [e0, e1] at hK ⊢
          simp only [Act.put, List.setIfInBounds_toArray, List.set_cons_zero, List.set_cons_succ] at hK
          clear hs
          go_simp
          all_goals first | with_reducible exact hK.out _ _ rfl hg | exact hK.out _ _ rfl hg
        · cases ho
          have e2 : s 2 = _ := hs 2 (by decide) (by kernel_rfl)
          simp only [e2] at hK ⊢
          simp only [Act.put, List.setIfInBounds_toArray, List.set_cons_zero, List.set_cons_succ] at hK
          clear hs
          refine wp_load_mid (P := Try.prog) 67 _ rfl _ _ rfl [.int .i64 (A2 k), .int .i64 (B2 k)] _ ua Try.underlying67 rfl (by kernel_rfl) ?_; exact hK.out _ _ rfl hg
        · cases ho
          simp only [Act.put, List.setIfInBounds_toArray, List.set_cons_zero, List.set_cons_succ] at hK
          clear hs
          go_simp
          all_goals first | with_reducible exact hK.out _ _ rfl hg | exact hK.out _ _ rfl hg
        · cases ho
          simp only [Act.put, List.setIfInBounds_toArray, List.set_cons_zero, List.set_cons_succ] at hK
          clear hs
          go_simp
          all_goals first | with_reducible exact hK.out _ _ rfl hg | exact hK.out _ _ rfl hg
        · cases ho
          have e4 : s 4 = _ := hs 4 (by decide) (by kernel_rfl)
          have e5 : s 5 = _ := hs 5 (by decide) (by kernel_rfl)
          simp only [e4, e5] at hK ⊢
          simp only [Act.put, List.setIfInBounds_toArray, List.set_cons_zero, List.set_cons_succ] at hK
          clear hs
          go_simp
          all_goals first | with_reducible exact hK.out _ _ rfl hg | exact hK.out _ _ rfl hg
        · cases ho
          have e6 : s 6 = _ := hs 6 (by decide) (by kernel_rfl)
          simp only [e6] at hK ⊢
          simp only [Act.put, List.setIfInBounds_toArray, List.set_cons_zero, List.set_cons_succ] at hK
          clear hs
          refine wp_load_mid (P := Try.prog) 67 _ rfl _ _ rfl [.int .i64 (A2 k), .int .i64 (B2 k)] _ ub Try.underlying67 rfl (by kernel_rfl) ?_; exact hK.out _ _ rfl hg
        · cases ho
          have e3 : s 3 = _ := hs 3 (by decide) (by kernel_rfl)
          have e7 : s 7 = _ := hs 7 (by decide) (by kernel_rfl)
          simp only [e3, e7] at hK ⊢
          simp only [Act.put, List.setIfInBounds_toArray, List.set_cons_zero, List.set_cons_succ] at hK
          clear hs
          go_simp
          all_goals first | with_reducible exact hK.out _ _ rfl hg | exact hK.out _ _ rfl hg
      case ht_sp =>
        intro s hs W hg
        have e0 : s 0 = _ := hs 0 (by decide)
        have e1 : s 1 = _ := hs 1 (by decide)
        have e2 : s 2 = _ := hs 2 (by decide)
        have e3 : s 3 = _ := hs 3 (by decide)
        have e4 : s 4 = _ := hs 4 (by decide)
        have e5 : s 5 = _ := hs 5 (by decide)
        have e6 : s 6 = _ := hs 6 (by decide)
        have e7 : s 7 = _ := hs 7 (by decide)
        have e8 : s 8 = _ := hs 8 (by decide)
        simp only [e0, e1, e2, e3, e4, e5, e6, e7, e8]
        clear hs e0 e1 e2 e3 e4 e5 e6 e7 e8
        repeat (first | go_values | go_skip | go_guarded | go_step | go_upon | go_back | dsimp only)
        exact ⟨⟨k + 1, by omega, by first | go_num | rfl, bl_trans hB hg⟩, by simp [intOf]; omega⟩
    · have hkn : k = n := by omega
      subst hkn
      repeat (first | go_values | go_skip | go_guarded | go_step | go_upon | go_back | dsimp only)
      go_ret
      exact ⟨rfl, hB⟩

end Go.Proofs.Ytmphpmkhddnfdaa
