/-
  What each function of package sweep answers, and what the reference of its chapter answers: one contract a function, for every list of boxes; of the memory that was there nothing has turned.
-/
import Derived.Test.YtekhnolpgoejdaaGreatSwa
import Derived.Test.YtekhnolpgoejdaaGreatSwq
import Derived.Below
import Derived.BigQuiet
import Derived.OwnWalk
import Derived.Laws.AppendOwn
import Derived.Laws.AppendOwnNone
import Derived.WalkKit
import Derived.WalkLawsBesides
import Derived.WalkSpells
import Derived.ProofKit
import Derived.OpenShut
import Derived.Deep.RegionHeld3
import Derived.Deep.LoopGhost
namespace Go.Proofs.YtekhnolpgoejdaaGreat
open Go.ChangeShapes Go.WideShapes Go.ChangeAt Go.RowKit Go.Shelf Go.Lib Go.Sort
set_option linter.unusedVariables false
set_option linter.unusedSimpArgs false


set_option maxRecDepth 100000 in
set_option maxHeartbeats 4000000 in
theorem reach_s (b off n cap g ro rc m : Nat) (B : Nat → Bo) (R : List Nat) (y : Bo) (w : World) (hB0 : Bs w b off n B) (hR0 : Is w g ro R) (hlt0 : ∀ i ∈ R, i < n) (hml : R.length = m) (hm : m ≤ 16384) :
    Calls Tryz.prog 46 #[.slice (some ⟨b, off, none⟩) n cap, .slice (some ⟨g, ro, none⟩) m rc, .agg #[.float .f64 y.1, .float .f64 y.2.1, .float .f64 y.2.2.1, .float .f64 y.2.2.2]] w fun e w' => ∃ v, e = .returned v ∧ OwnR 1 w.heap.size w' v (reach B y R).length (iRow (reach B y R)) ∧ Bel w w' := by
  have B0 := bl_alloc (bl_refl w) #[.float .f64 y.1, .float .f64 y.2.1, .float .f64 y.2.2.1, .float .f64 y.2.2.2] 37
  obtain ⟨W1, hW1⟩ : ∃ W1, W1 = w.alloc (.cells #[.float .f64 y.1, .float .f64 y.2.1, .float .f64 y.2.2.1, .float .f64 y.2.2.2] 37) := ⟨_, rfl⟩
  have hk : Bk W1 w.heap.size y := by
    rw [hW1]
    exact ⟨by rw [World.cell?_alloc_new]; rfl, by rw [World.cell?_alloc_new]; rfl, by rw [World.cell?_alloc_new]; rfl, by rw [World.cell?_alloc_new]; rfl⟩
  rw [hW1] at hk
  have hsz : (w.alloc (.cells #[.float .f64 y.1, .float .f64 y.2.1, .float .f64 y.2.2.1, .float .f64 y.2.2.2] 37)).heap.size = w.heap.size + 1 := World.size_alloc _ _
  obtain ⟨Q, hQ⟩ : ∃ Q, reach B y R = Q := ⟨_, rfl⟩
  rw [hQ]
  have HQ : Hid (reach B y R = Q) := hQ
  clear hQ hW1
  have cgt := cmp_gt .f64
  go_enter Tryz.func46, Tryz.ntmps46
  go_wp2
  go_loopg [7, 12] m (fun kx s7 s12 wr => ∃ (k : Nat) (acc : List Nat), s12 = .int .i64 k ∧ k ≤ m ∧ m - k ≤ kx ∧ acc.length ≤ k ∧ OwnR 1 (w.heap.size + 1) wr s7 (acc).length (iRow (acc)) ∧ Bel (w.alloc (.cells #[.float .f64 y.1, .float .f64 y.2.1, .float .f64 y.2.2.1, .float .f64 y.2.2.2] 37)) wr ∧ Hid (acc ++ reach B y (R.drop k) = Q))
  case atStart => exact ⟨0, [], rfl, by omega, by omega, Nat.le_refl _, OwnR.nil _ _ _, bl_refl _, HQ.out⟩
  case round =>
    obtain ⟨k, acc, rfl, hkm, hkx, hal, hO, hW, hA⟩ := hrel
    by_cases hlt : k < m
    · have hltz : (k : Int) < (m : Int) := by omega
      have hwk : IntKind.wrap .i64 ((k : Int) + 1) = (k : Int) + 1 := by rw [IntKind.wrap_i64]; omega
      obtain ⟨r, hr⟩ : ∃ r, R[k]? = some r := ⟨_, List.getElem?_eq_getElem (by omega)⟩
      have hrn : r < n := hlt0 r (List.mem_of_getElem? hr)
      have hrz : (r : Int) < (n : Int) := by omega
      have hd := drop_at hr
      have x4 := (hR0.bel B0).bel hW k r hr
      obtain ⟨x0, x1, x2, x3⟩ := ((hB0.bel B0).bel hW) r hrn
      obtain ⟨z0, z1, z2, z3⟩ := hk.bel hW
      have HD : Hid (R.drop k = r :: R.drop (k + 1)) := hd
      clear hd hr
      haveI := belBy_some wr
      have y0 := belBy_cell x0
      have y1 := belBy_cell x1
      have y2 := belBy_cell x2
      have y3 := belBy_cell x3
      have v0 := belBy_cell z0
      have v1 := belBy_cell z1
      have v2 := belBy_cell z2
      have v3 := belBy_cell z3
      cases hg : ltK .f64 y.2.2.1 (B r).1 with
      | true =>
        go_wp2
        refine wp_region_quiet_bel (by kernel_rfl) (by kernel_rfl) ?_
        repeat (go_big_quiet_step (fail))
        refine wpQuiet_nil ?_
        rintro _ ⟨nq, rfl⟩
        go_wp2
        go_ret
        have hb := nq.h
        refine ⟨_, rfl, ?_, bl_trans (bl_trans B0 hW) hb⟩
        have e : acc = Q := by rw [← hA.out, HD.out, reach_stop hg, List.append_nil]
        rw [← e]; exact (hO.bel hb).base (by omega)
      | false =>
        go_wp2
        refine wp_region_quiet_bel (by kernel_rfl) (by kernel_rfl) ?_
        repeat (go_big_quiet_step (fail))
        refine wpQuiet_nil ?_
        rintro _ ⟨nq, rfl⟩
        have hb := nq.h
        clear y0 y1 y2 y3 v0 v1 v2 v3 this
        obtain ⟨w1, hw1⟩ : ∃ w1, w1 = nq.world := ⟨_, rfl⟩
        rw [← hw1] at hb
        rw [← hw1]
        clear hw1 nq
        haveI := belBy_some w1
        have y0 := belBy_cell (keepB hb x0)
        have y1 := belBy_cell (keepB hb x1)
        have y2 := belBy_cell (keepB hb x2)
        have y3 := belBy_cell (keepB hb x3)
        have v0 := belBy_cell (keepB hb z0)
        have v1 := belBy_cell (keepB hb z1)
        have v2 := belBy_cell (keepB hb z2)
        have v3 := belBy_cell (keepB hb z3)
        obtain ⟨o, ho⟩ : ∃ o, ovO (B r) y = o := ⟨_, rfl⟩
        have hov : ∀ W, Calls Tryz.prog 21 #[.agg #[.float .f64 (B r).1, .float .f64 (B r).2.1, .float .f64 (B r).2.2.1, .float .f64 (B r).2.2.2], .agg #[.float .f64 y.1, .float .f64 y.2.1, .float .f64 y.2.2.1, .float .f64 y.2.2.2]] W fun e w' => e = .returned (.bool o) ∧ Bel W w' := fun W => by rw [← ho]; exact xOver_any _ _ _ _ _ _ _ _ W
        have HO : Hid (ovO (B r) y = o) := ho
        clear ho
        go_wp2
        refine wp_region_quiet_bel (by kernel_rfl) (by kernel_rfl) ?_
        repeat (go_big_quiet_step (first | (go_at_call 21; exact calls_bel (hov _))))
        refine wpQuiet_nil ?_
        rintro _ ⟨nq, rfl⟩
        have hb2 := nq.h
        clear y0 y1 y2 y3 v0 v1 v2 v3 this
        obtain ⟨w2, hw2⟩ : ∃ w2, w2 = nq.world := ⟨_, rfl⟩
        rw [← hw2] at hb2
        rw [← hw2]
        clear hw2 nq
        have hW2 := bl_trans hW (bl_trans hb hb2)
        have hO2 := hO.bel (bl_trans hb hb2)
        cases o with
        | true =>
          have hO' := hO2.bel (bl_alloc (bl_refl w2) #[.int .i64 (r : Int)] 3)
          have hsw := hW2.size
          rw [hsz] at hsw
          go_wp2_with (first | (at_builtin; refine wpList_appR (P := Tryz.prog) (sz := 1) (by_ := 8) (R := iRow (acc)) (N := [.int .i64 (r : Int)]) 38 3 rfl _ _ rfl Tryz.underlying38 info_int rfl rfl _ 0 1 1 rfl hO' rfl (mk_rw _ [.int .i64 (r : Int)] 3) (by intro u hu; simp only [List.mem_cons, List.not_mem_nil, or_false] at hu; subst hu; rfl) (by decide) (by simp only [World.size_alloc]; omega) (by unfold maxLen; omega) (by omega) ?_; intro v2 w2 hO2 hv2 hbX; have B3 := hbX (w.alloc (.cells #[.float .f64 y.1, .float .f64 y.2.1, .float .f64 y.2.2.1, .float .f64 y.2.2.2] 37)) (bl_alloc hW2 _ _) (by rw [hsz]; exact Nat.le_refl _)))
          go_roundg (m - (k + 1))
          case measure => omega
          case rel => exact ⟨k + 1, acc ++ [r], by go_num, by omega, Nat.le_refl _, by rw [List.length_append]; simp; omega, by rw [List.length_append, iRow_app]; exact hO2, B3, (show _ = _ from by rw [← hA.out, HD.out, reach_yes hg HO.out, List.append_assoc]; rfl)⟩
        | false =>
          go_wp2
          go_roundg (m - (k + 1))
          case measure => omega
          case rel => exact ⟨k + 1, acc, by go_num, by omega, Nat.le_refl _, by omega, hO2, hW2, (show _ = _ from by rw [← hA.out, HD.out, reach_no hg HO.out])⟩
    · have hltz : ¬ (k : Int) < (m : Int) := by omega
      have hkn : k = m := by omega
      subst hkn
      go_wp2
      go_ret
      refine ⟨_, rfl, ?_, bl_trans B0 hW⟩
      have e : acc = Q := by
        have := hA.out
        rw [List.drop_eq_nil_of_le (by omega)] at this
        simpa [reach] using this
      rw [← e]; exact hO.base (by omega)

end Go.Proofs.YtekhnolpgoejdaaGreat
