/-
  What each function of package grid answers: one contract a function.
-/
import Derived.Test.YtekhnolpgoejdabGm
import Derived.Test.YtekhnolpgoejdabApps
import Derived.Laws.FloatArith
import Derived.Laws.StructEq
import Derived.Deep.DeepCutAuto
import Derived.Laws.MakeOwn
import Derived.Below
import Derived.BigQuiet
import Derived.OwnWalk
import Derived.Laws.AppendOwn
import Derived.Laws.AppendOwnNone
import Derived.WalkKit
import Derived.WalkLawsBesides
import Derived.WalkSpells
import Derived.ProofKit
import Derived.OpenShut
import Derived.Deep.RegionHeld3
import Derived.Deep.LoopGhost
namespace Go.Proofs.Ytekhnolpgoejdab
open Go.ChangeShapes Go.WideShapes Go.ChangeAt Go.RowKit Go.Shelf Go.Lib Go.Sort
set_option linter.unusedVariables false
set_option linter.unusedSimpArgs false


theorem own_len14 {sz base : Nat} {w : World} {v : Value} {n : Nat} {R : List Value} (h : OwnR sz base w v n R) : ∃ sa cap, v = .slice sa n cap := by
  rcases h.2 with ⟨e1, e2⟩ | ⟨k, cap, e, _⟩
  · subst e2; exact ⟨_, _, e1⟩
  · exact ⟨_, _, e⟩

/-- what grid.With answers -/
def gwL (B : Nat → Bo) (n d : Nat) (y : Bo) : List Nat := if 16384 < n then [] else if mayW d then nums (fun i => meO (B i) y) n else []
theorem gwL_len (B : Nat → Bo) (n d : Nat) (y : Bo) : (gwL B n d y).length ≤ n := by
  unfold gwL
  split
  · simp
  · split
    · exact nums_len _ _
    · simp
set_option maxRecDepth 100000 in
set_option maxHeartbeats 8000000 in
theorem with14_s (sa : Option Addr) (n cap d : Nat) (B : Nat → Bo) (y : Bo) (w : World) (hA : AnyB w sa n B) :
    Calls Try.prog 8 #[.slice sa n cap, .agg #[.float .f64 y.1, .float .f64 y.2.1, .float .f64 y.2.2.1, .float .f64 y.2.2.2], .float .f64 d] w fun e w' => ∃ v, e = .returned (.tuple #[v, .int .i64 (ckG n d)]) ∧ OwnR 1 w.heap.size w' v (gwL B n d y).length (iRow (gwL B n d y)) ∧ ((gwL B n d y) = [] → v = .slice none 0 0) ∧ Bel w w' := by
  have B0 := bl_alloc (bl_refl w) #[.float .f64 y.1, .float .f64 y.2.1, .float .f64 y.2.2.1, .float .f64 y.2.2.2] 35
  obtain ⟨E, hE⟩ : ∃ E, ckG n d = E := ⟨_, rfl⟩
  obtain ⟨GL, hGL⟩ : ∃ L, gwL B n d y = L := ⟨_, rfl⟩
  rw [hE, hGL]
  rcases Nat.lt_or_ge 16384 n with hn | hn
  · have e1 : E = 4 := by rw [← hE]; unfold ckG; rw [if_pos hn]
    have e2 : GL = [] := by rw [← hGL]; unfold gwL; rw [if_pos hn]
    subst e2
    subst e1
    go_enter Try.func8, Try.ntmps8
    go_wp2_with (first | (go_at_call 18; (with_reducible refine (check_s sa n cap d _).mono ?_); rintro e w' ⟨rfl, hw⟩; rw [hw, hE]; clear hw))
    refine bodyPost_ret (v := .tuple #[.slice none 0 0, .int .i64 4]) (by simp [results, Try.results8, go_sem]) rfl ?_
    exact ⟨_, rfl, OwnR.nil _ _ _, fun _ => rfl, B0⟩
  · cases hm : mayW d with
    | false =>
      have e1 : E = 140 := by rw [← hE]; unfold ckG; rw [if_neg (by omega), hm]; rfl
      have e2 : GL = [] := by rw [← hGL]; unfold gwL; rw [if_neg (by omega), hm]; rfl
      subst e2
      subst e1
      go_enter Try.func8, Try.ntmps8
      go_wp2_with (first | (go_at_call 18; (with_reducible refine (check_s sa n cap d _).mono ?_); rintro e w' ⟨rfl, hw⟩; rw [hw, hE]; clear hw))
      refine bodyPost_ret (v := .tuple #[.slice none 0 0, .int .i64 140]) (by simp [results, Try.results8, go_sem]) rfl ?_
      exact ⟨_, rfl, OwnR.nil _ _ _, fun _ => rfl, B0⟩
    | true =>
      have e1 : E = 0 := by rw [← hE]; unfold ckG; rw [if_neg (by omega), hm]; rfl
      subst e1
      cases hy : mayO y with
      | false =>
        have e2 : GL = [] := by
          rw [← hGL]; unfold gwL; rw [if_neg (by omega), hm, if_pos rfl]
          unfold nums meO; rw [List.filter_eq_nil_iff]; intro i _; rw [hy]; simp
        subst e2
        go_enter Try.func8, Try.ntmps8
        go_wp2_with (first | (go_at_call 18; (with_reducible refine (check_s sa n cap d _).mono ?_); rintro e w' ⟨rfl, hw⟩; rw [hw, hE]; clear hw) | (go_at_call 26; (with_reducible refine (lies_s y _).mono ?_); rintro e w1 ⟨rfl, hb1⟩; rw [hy]))
        refine bodyPost_ret (v := .tuple #[.slice none 0 0, .int .i64 0]) (by simp [results, Try.results8, go_sem]) rfl ?_
        exact ⟨_, rfl, OwnR.nil _ _ _, fun _ => rfl, bl_trans B0 hb1⟩
      | true =>
        have HGL : Hid (nums (fun i => mayO (B i) && ovO (B i) y) n = GL) := (show _ = _ from by
          rw [← hGL]; unfold gwL; rw [if_neg (by omega), hm, if_pos rfl]
          unfold nums meO; congr 1; funext i; rw [hy, Bool.and_true])
        obtain ⟨W1, hW1⟩ : ∃ W1, W1 = w.alloc (.cells #[.float .f64 y.1, .float .f64 y.2.1, .float .f64 y.2.2.1, .float .f64 y.2.2.2] 35) := ⟨_, rfl⟩
        have a0 : W1.cell? ⟨w.heap.size, 0, none⟩ = some (.float .f64 y.1) := by rw [hW1, World.cell?_alloc_new]; rfl
        have a1 : W1.cell? ⟨w.heap.size, 1, none⟩ = some (.float .f64 y.2.1) := by rw [hW1, World.cell?_alloc_new]; rfl
        have a2 : W1.cell? ⟨w.heap.size, 2, none⟩ = some (.float .f64 y.2.2.1) := by rw [hW1, World.cell?_alloc_new]; rfl
        have a3 : W1.cell? ⟨w.heap.size, 3, none⟩ = some (.float .f64 y.2.2.2) := by rw [hW1, World.cell?_alloc_new]; rfl
        rw [hW1] at a0 a1 a2 a3
        clear hW1 hGL
        go_enter Try.func8, Try.ntmps8
        go_wp2_with (first | (go_at_call 18; (with_reducible refine (check_s sa n cap d _).mono ?_); rintro e w' ⟨rfl, hw⟩; rw [hw, hE]; clear hw) | (go_at_call 26; (with_reducible refine (lies_s y _).mono ?_); rintro e w1 ⟨rfl, hb1⟩; rw [hy]))
        have B1 := bl_trans B0 hb1
        replace a0 := keepB hb1 a0
        replace a1 := keepB hb1 a1
        replace a2 := keepB hb1 a2
        replace a3 := keepB hb1 a3
        clear hb1 B0
        go_loopg [9, 23] n (fun kx s9 s23 wr => ∃ (t : Nat) (acc : List Nat), s23 = .int .i64 t ∧ t ≤ n ∧ n - t ≤ kx ∧ acc.length ≤ t ∧ OwnR 1 w1.heap.size wr s9 acc.length (iRow acc) ∧ Hid (acc = [] → s9 = .slice none 0 0) ∧ Bel w1 wr ∧ Hid (acc = nums (fun i => mayO (B i) && ovO (B i) y) t))
        case atStart => exact ⟨0, [], rfl, Nat.zero_le _, Nat.le_refl _, Nat.le_refl _, OwnR.nil _ _ _, (show _ → _ from fun _ => rfl), bl_refl _, (show _ = _ from by simp [nums])⟩
        case round =>
          obtain ⟨t, acc, rfl, htn, hkx, hal, hO, HZ, hW, HAC⟩ := hrel
          have hbw := bl_trans B1 hW
          have hsz := hbw.size
          by_cases hlt : t < n
          · have hltz : (t : Int) < (n : Int) := by omega
            have hwk : IntKind.wrap .i64 ((t : Int) + 1) = (t : Int) + 1 := by rw [IntKind.wrap_i64]; omega
            obtain ⟨b, off, hsa, hBs, hbl⟩ : ∃ b off, sa = some ⟨b, off, none⟩ ∧ Bs w b off n B ∧ b < w.heap.size := by
              rcases hA with h0 | h0
              · omega
              · exact h0
            clear hA
            subst hsa
            obtain ⟨x0, x1, x2, x3⟩ := (hBs.bel hbw) t hlt
            have y0 := keepB hW a0
            have y1 := keepB hW a1
            have y2 := keepB hW a2
            have y3 := keepB hW a3
            have Bx := bl_alloc (bl_refl wr) #[.float .f64 (B t).1, .float .f64 (B t).2.1, .float .f64 (B t).2.2.1, .float .f64 (B t).2.2.2] 35
            have q0 := keepB Bx y0
            have q1 := keepB Bx y1
            have q2 := keepB Bx y2
            have q3 := keepB Bx y3
            have t0 : (wr.alloc (.cells #[.float .f64 (B t).1, .float .f64 (B t).2.1, .float .f64 (B t).2.2.1, .float .f64 (B t).2.2.2] 35)).cell? ⟨wr.heap.size, 0, none⟩ = some (.float .f64 (B t).1) := by rw [World.cell?_alloc_new]; rfl
            have t1 : (wr.alloc (.cells #[.float .f64 (B t).1, .float .f64 (B t).2.1, .float .f64 (B t).2.2.1, .float .f64 (B t).2.2.2] 35)).cell? ⟨wr.heap.size, 1, none⟩ = some (.float .f64 (B t).2.1) := by rw [World.cell?_alloc_new]; rfl
            have t2 : (wr.alloc (.cells #[.float .f64 (B t).1, .float .f64 (B t).2.1, .float .f64 (B t).2.2.1, .float .f64 (B t).2.2.2] 35)).cell? ⟨wr.heap.size, 2, none⟩ = some (.float .f64 (B t).2.2.1) := by rw [World.cell?_alloc_new]; rfl
            have t3 : (wr.alloc (.cells #[.float .f64 (B t).1, .float .f64 (B t).2.1, .float .f64 (B t).2.2.1, .float .f64 (B t).2.2.2] 35)).cell? ⟨wr.heap.size, 3, none⟩ = some (.float .f64 (B t).2.2.2) := by rw [World.cell?_alloc_new]; rfl
            have hlie : ∀ W, Calls Try.prog 26 #[.agg #[.float .f64 (B t).1, .float .f64 (B t).2.1, .float .f64 (B t).2.2.1, .float .f64 (B t).2.2.2]] W fun e w' => e = .returned (.bool (mayO (B t))) ∧ Bel W w' := fun W => lies_s (B t) W
            have hov : ∀ W, Calls Try.prog 27 #[.agg #[.float .f64 (B t).1, .float .f64 (B t).2.1, .float .f64 (B t).2.2.1, .float .f64 (B t).2.2.2], .agg #[.float .f64 y.1, .float .f64 y.2.1, .float .f64 y.2.2.1, .float .f64 y.2.2.2]] W fun e w' => e = .returned (.bool (ovO (B t) y)) ∧ Bel W w' := fun W => xOver_any _ _ _ _ _ _ _ _ W
            cases hmt : mayO (B t) with
            | false =>
              rw [hmt] at hlie
              have HP : Hid ((mayO (B t) && ovO (B t) y) = false) := (show _ = _ from by rw [hmt]; rfl)
              clear hmt
              go_wp2_with (first | (go_at_call 26; (with_reducible refine (hlie _).mono ?_); rintro e w2 ⟨rfl, hb2⟩))
              have B2 := bl_trans Bx hb2
              go_roundg (n - (t + 1))
              case measure => omega
              case rel => exact ⟨t + 1, acc, by go_num, by omega, Nat.le_refl _, by omega, hO.bel B2, HZ, bl_trans hW B2, (show _ = _ from by rw [nums_no HP.out]; exact HAC.out)⟩
            | true =>
              rw [hmt] at hlie
              cases hot : ovO (B t) y with
              | false =>
                rw [hot] at hov
                have HP : Hid ((mayO (B t) && ovO (B t) y) = false) := (show _ = _ from by rw [hmt, hot]; rfl)
                clear hmt hot
                go_wp2_with (first | (go_at_call 26; (with_reducible refine (hlie _).mono ?_); rintro e w2 ⟨rfl, hb2⟩; replace q0 := keepB hb2 q0; replace q1 := keepB hb2 q1; replace q2 := keepB hb2 q2; replace q3 := keepB hb2 q3; replace t0 := keepB hb2 t0; replace t1 := keepB hb2 t1; replace t2 := keepB hb2 t2; replace t3 := keepB hb2 t3) | (go_at_call 27; (with_reducible refine (hov _).mono ?_); rintro e w3 ⟨rfl, hb3⟩))
                have B2 := bl_trans (bl_trans Bx hb2) hb3
                go_roundg (n - (t + 1))
                case measure => omega
                case rel => exact ⟨t + 1, acc, by go_num, by omega, Nat.le_refl _, by omega, hO.bel B2, HZ, bl_trans hW B2, (show _ = _ from by rw [nums_no HP.out]; exact HAC.out)⟩
              | true =>
                rw [hot] at hov
                have HP : Hid ((mayO (B t) && ovO (B t) y) = true) := (show _ = _ from by rw [hmt, hot]; rfl)
                clear hmt hot
                go_wp2_with (first | (go_at_call 26; (with_reducible refine (hlie _).mono ?_); rintro e w2 ⟨rfl, hb2⟩; replace q0 := keepB hb2 q0; replace q1 := keepB hb2 q1; replace q2 := keepB hb2 q2; replace q3 := keepB hb2 q3; replace t0 := keepB hb2 t0; replace t1 := keepB hb2 t1; replace t2 := keepB hb2 t2; replace t3 := keepB hb2 t3) | (go_at_call 27; (with_reducible refine (hov _).mono ?_); rintro e w3 ⟨rfl, hb3⟩; have B2 := bl_trans (bl_trans Bx hb2) hb3; have s3 := (bl_trans hW B2).size; have own9 := (hO.bel B2).bel (bl_alloc (bl_refl w3) #[.int .i64 (t : Int)] 3)) | (at_builtin; refine wpList_appS (P := Try.prog) (sz := 1) (by_ := 8) (R := iRow acc) (N := [.int .i64 (t : Int)]) 29 3 rfl _ _ rfl Try.underlying29 info_int rfl rfl _ 0 1 1 rfl own9 rfl (mk_rw w3 [.int .i64 (t : Int)] 3) one_int (by decide) (by simp only [World.size_alloc]; omega) (by unfold maxLen; omega) (by omega) ?_; intro v9 w9 hO9 hv9 hbX hoth hlow; obtain ⟨g9, c9, rfl, hg9⟩ := hv9; have B91 := hbX w1 (bl_alloc (bl_trans hW B2) _ _) (Nat.le_refl _)))
                go_roundg (n - (t + 1))
                case measure => omega
                case rel => exact ⟨t + 1, acc ++ [t], by go_num, by omega, Nat.le_refl _, by rw [List.length_append]; simp; omega, by rw [List.length_append, iRow_app]; exact hO9, (show _ → _ from fun e => by simp at e), B91, (show _ = _ from by rw [nums_yes HP.out, HAC.out])⟩
          · have hltz : ¬ (t : Int) < (n : Int) := by omega
            have htt : t = n := by omega
            have e3 : Hid (acc = GL) := (show _ = _ from by rw [HAC.out, htt]; exact HGL.out)
            clear htt
            obtain ⟨sg, cg, hv⟩ := own_len14 hO
            subst hv
            go_wp2
            refine bodyPost_ret (v := .tuple #[.slice sg acc.length cg, .int .i64 0]) (by simp [results, Try.results8, go_sem]) rfl ?_
            exact ⟨_, rfl, by rw [← e3.out]; exact hO.base B1.size, fun e => HZ.out (by rw [e3.out]; exact e), hbw⟩

end Go.Proofs.Ytekhnolpgoejdab
