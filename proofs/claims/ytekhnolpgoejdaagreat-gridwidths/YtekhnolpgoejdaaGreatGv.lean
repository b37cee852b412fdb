/-
  What each function of package grid answers: one contract a function.
-/
import Derived.Test.YtekhnolpgoejdaaGreatGu
import Derived.Test.YtekhnolpgoejdaaGreatGov
import Derived.Laws.FloatArith
import Derived.Laws.StructEq
import Derived.Deep.DeepCutAuto
import Derived.Laws.MakeOwn
import Derived.Below
import Derived.BigQuiet
import Derived.OwnWalk
import Derived.Laws.AppendOwn
import Derived.Laws.AppendOwnNone
import Derived.WalkKit
import Derived.WalkLawsBesides
import Derived.WalkSpells
import Derived.ProofKit
import Derived.OpenShut
import Derived.Deep.RegionHeld3
import Derived.Deep.LoopGhost
namespace Go.Proofs.YtekhnolpgoejdaaGreat
open Go.ChangeShapes Go.WideShapes Go.ChangeAt Go.RowKit Go.Shelf Go.Lib Go.Sort
set_option linter.unusedVariables false
set_option linter.unusedSimpArgs false


set_option maxRecDepth 100000 in
set_option maxHeartbeats 8000000 in
theorem rwith14_s (sa : Option Addr) (n cap d : Nat) (B : Nat → Bo) (y : Bo) (w : World) (hA : AnyB w sa n B) (hn : n ≤ 200) :
    Calls Tryz.prog 14 #[.slice sa n cap, .agg #[.float .f64 y.1, .float .f64 y.2.1, .float .f64 y.2.2.1, .float .f64 y.2.2.2], .float .f64 d] w fun e w' => ∃ v, e = .returned (.tuple #[v, .int .i64 (ckG n d)]) ∧ OwnR 1 w.heap.size w' v (gwL B n d y).length (iRow (gwL B n d y)) ∧ Bel w w' := by
  have B0 := bl_alloc (bl_refl w) #[.float .f64 y.1, .float .f64 y.2.1, .float .f64 y.2.2.1, .float .f64 y.2.2.2] 37
  have hk := fun W => rasked_s sa n cap d W
  cases hm : mayW d with
  | false =>
    have e1 : ckG n d = 140 := by unfold ckG; rw [if_neg (by omega), hm]; rfl
    have e2 : gwL B n d y = [] := by unfold gwL; rw [if_neg (by omega), hm]; rfl
    rw [e1] at hk ⊢
    rw [e2]
    go_enter Tryz.func14, Tryz.ntmps14
    go_wp2_with (first | (go_at_call 32; (with_reducible refine (hk _).mono ?_); rintro e w' ⟨rfl, hw⟩; rw [hw]; clear hw))
    refine bodyPost_ret (v := .tuple #[.slice none 0 0, .int .i64 140]) (by simp [results, Tryz.results14, go_sem]) rfl ?_
    exact ⟨_, rfl, OwnR.nil _ _ _, B0⟩
  | true =>
    have e1 : ckG n d = 0 := by unfold ckG; rw [if_neg (by omega), hm]; rfl
    obtain ⟨GL, hGL⟩ : ∃ L, gwL B n d y = L := ⟨_, rfl⟩
    have HGL : Hid (nums (fun i => meO (B i) y) n = GL) := (show _ = _ from by rw [← hGL]; unfold gwL; rw [if_neg (by omega), hm, if_pos rfl])
    rw [e1] at hk ⊢
    rw [hGL]
    obtain ⟨W1, hW1⟩ : ∃ W1, W1 = w.alloc (.cells #[.float .f64 y.1, .float .f64 y.2.1, .float .f64 y.2.2.1, .float .f64 y.2.2.2] 37) := ⟨_, rfl⟩
    have a0 : W1.cell? ⟨w.heap.size, 0, none⟩ = some (.float .f64 y.1) := by rw [hW1, World.cell?_alloc_new]; rfl
    have a1 : W1.cell? ⟨w.heap.size, 1, none⟩ = some (.float .f64 y.2.1) := by rw [hW1, World.cell?_alloc_new]; rfl
    have a2 : W1.cell? ⟨w.heap.size, 2, none⟩ = some (.float .f64 y.2.2.1) := by rw [hW1, World.cell?_alloc_new]; rfl
    have a3 : W1.cell? ⟨w.heap.size, 3, none⟩ = some (.float .f64 y.2.2.2) := by rw [hW1, World.cell?_alloc_new]; rfl
    rw [← hW1] at B0
    have hs0 := B0.size
    go_enter Tryz.func14, Tryz.ntmps14
    go_wp2_with (first | (go_at_call 32; (with_reducible refine (hk _).mono ?_); rintro e w' ⟨rfl, hw⟩; rw [hw]; clear hw))
    rw [← hW1]
    clear hW1 hGL hk
    go_loopg [9, 10] n (fun kx s9 s10 wr => ∃ (t : Nat) (acc : List Nat), s10 = .int .i64 t ∧ t ≤ n ∧ n - t ≤ kx ∧ acc.length ≤ t ∧ OwnR 1 W1.heap.size wr s9 acc.length (iRow acc) ∧ Bel W1 wr ∧ Hid (acc = nums (fun i => meO (B i) y) t))
    case atStart => exact ⟨0, [], rfl, Nat.zero_le _, Nat.le_refl _, Nat.le_refl _, OwnR.nil _ _ _, bl_refl _, (show _ = _ from by simp [nums])⟩
    case round =>
      obtain ⟨t, acc, rfl, htn, hkx, hal, hO, hW, HAC⟩ := hrel
      have hbw := bl_trans B0 hW
      by_cases hlt : t < n
      · have hltz : (t : Int) < (n : Int) := by omega
        have hwk : IntKind.wrap .i64 ((t : Int) + 1) = (t : Int) + 1 := by rw [IntKind.wrap_i64]; omega
        obtain ⟨b, off, hsa, hBs, hbl⟩ : ∃ b off, sa = some ⟨b, off, none⟩ ∧ Bs w b off n B ∧ b < w.heap.size := by
          rcases hA with h0 | h0
          · omega
          · exact h0
        clear hA
        subst hsa
        obtain ⟨x0, x1, x2, x3⟩ := (hBs.bel hbw) t hlt
        haveI := belBy_some wr
        have y0 := belBy_cell (keepB hW a0)
        have y1 := belBy_cell (keepB hW a1)
        have y2 := belBy_cell (keepB hW a2)
        have y3 := belBy_cell (keepB hW a3)
        have v0 := belBy_cell x0
        have v1 := belBy_cell x1
        have v2 := belBy_cell x2
        have v3 := belBy_cell x3
        obtain ⟨o, ho⟩ : ∃ o, meO (B t) y = o := ⟨_, rfl⟩
        have hov : ∀ W, Calls Tryz.prog 36 #[.agg #[.float .f64 (B t).1, .float .f64 (B t).2.1, .float .f64 (B t).2.2.1, .float .f64 (B t).2.2.2], .agg #[.float .f64 y.1, .float .f64 y.2.1, .float .f64 y.2.2.1, .float .f64 y.2.2.2]] W fun e w' => e = .returned (.bool o) ∧ Bel W w' := fun W => by rw [← ho]; exact rMeet_s _ _ W
        have HPO : Hid (meO (B t) y = o) := ho
        clear ho
        go_wp2
        refine wp_region_quiet_bel (by kernel_rfl) (by kernel_rfl) ?_
        repeat (go_big_quiet_step (first | (go_at_call 36; exact calls_bel (hov _))))
        refine wpQuiet_nil ?_
        rintro _ ⟨nq, rfl⟩
        have hb2 := nq.h
        clear y0 y1 y2 y3 v0 v1 v2 v3 this
        obtain ⟨w2, hw2⟩ : ∃ w2, w2 = nq.world := ⟨_, rfl⟩
        rw [← hw2] at hb2
        rw [← hw2]
        clear hw2 nq
        have hO3 := hO.bel hb2
        have hW3 := bl_trans hW hb2
        have hs3 := hW3.size
        cases o with
        | true =>
          have own9 := hO3.bel (bl_alloc (bl_refl w2) #[.int .i64 (t : Int)] 3)
          go_wp2_with (first | (at_builtin; refine wpList_appS (P := Tryz.prog) (sz := 1) (by_ := 8) (R := iRow acc) (N := [.int .i64 (t : Int)]) 38 3 rfl _ _ rfl Tryz.underlying38 info_int rfl rfl _ 0 1 1 rfl own9 rfl (mk_rw w2 [.int .i64 (t : Int)] 3) one_int (by decide) (by simp only [World.size_alloc]; omega) (by unfold maxLen; omega) (by omega) ?_; intro v9 w9 hO9 hv9 hbX hoth hlow; obtain ⟨g9, c9, rfl, hg9⟩ := hv9; have B91 := hbX W1 (bl_alloc hW3 _ _) (Nat.le_refl _)))
          go_roundg (n - (t + 1))
          case measure => omega
          case rel => exact ⟨t + 1, acc ++ [t], by go_num, by omega, Nat.le_refl _, by rw [List.length_append]; simp; omega, by rw [List.length_append, iRow_app]; exact hO9, B91, (show _ = _ from by rw [nums_yes (p := fun i => meO (B i) y) HPO.out, HAC.out])⟩
        | false =>
          go_wp2
          go_roundg (n - (t + 1))
          case measure => omega
          case rel => exact ⟨t + 1, acc, by go_num, by omega, Nat.le_refl _, by omega, hO3, hW3, (show _ = _ from by rw [nums_no (p := fun i => meO (B i) y) HPO.out]; exact HAC.out)⟩
      · have hltz : ¬ (t : Int) < (n : Int) := by omega
        have htt : t = n := by omega
        have e3 : Hid (acc = GL) := (show _ = _ from by rw [HAC.out, htt]; exact HGL.out)
        clear htt
        obtain ⟨sg, cg, hv⟩ := own_len14 hO
        subst hv
        go_wp2
        refine bodyPost_ret (v := .tuple #[.slice sg acc.length cg, .int .i64 0]) (by simp [results, Tryz.results14, go_sem]) rfl ?_
        exact ⟨_, rfl, by rw [← e3.out]; exact hO.base hs0, hbw⟩

end Go.Proofs.YtekhnolpgoejdaaGreat
