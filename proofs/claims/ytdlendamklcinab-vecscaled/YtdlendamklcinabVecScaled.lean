/-
  VecScaled: of every two ways whose parts are nought or from 2^-200 to 2^200, and every power of two from 2^-100 to 2^100: sums, differences, halves, quarters turned and lengths are so many times as great, products twice so, ways of the length 1 the same, bit by bit; no other condition.
-/
import Derived.Test.YtdlendamklcinabRows
import Derived.Test.YtdlendamklcinabVdet
import Derived.WalkKit
import Derived.ProofKit
import Derived.OpenShut
import Derived.WalkLawsBesides
import Derived.WalkSpells
import Derived.Lib.SmallJoins
import Derived.Laws.Cover2
import Derived.Deep.RegionHeld3
namespace Go.Proofs.Ytdlendamklcinab.vecScaled
open Go.ChangeShapes Go.WideShapes Go.ChangeAt Go.RowKit Go.Joins
set_option linter.unusedVariables false
set_option linter.unusedSimpArgs false

theorem own : ownKnob Try.prog.godebug = none := by kernel_rfl
theorem cellsV : Try.prog.cellsOf 24 = 2 := by kernel_rfl
theorem wf_f64 {x : Nat} (h : (Lit.float .f64 x).wf = true) : okK .f64 x := by
  rw [okK64]; simpa [Lit.wf] using h
theorem trod_fl {H : Type} {enc : TypeId × Value → H} {P : Program} {w : World} {base fuel : Nat} {spare : Nat → Bool} {held : Bool} {t : TypeId} {cs : List Value} {x : DataW H × List MemPlace} {k : FloatKind} (ht : P.underlying t = some (.float k)) (h : DataW.trod enc P w base spare held fuel t cs = some x) : ∃ n, cs = [.float k n] ∧ x = (.lit (.float k n), []) ∧ (Lit.float k n).wf = true := by
  cases fuel with
  | zero => simp [DataW.trod] at h
  | succ n =>
    unfold DataW.trod at h
    rw [ht] at h
    split at h <;> simp_all

set_option maxRecDepth 100000 in
set_option maxHeartbeats 20000000 in
theorem walk (x0 y0 : Nat) (x1 y1 : Nat) (i2 : Int) (ox0 : okK .f64 x0) (oy0 : okK .f64 y0) (ox1 : okK .f64 x1) (oy1 : okK .f64 y1) (wi2 : (Lit.int .i64 i2).wf = true) (w : World) :
    Calls Try.prog 3 #[.agg #[.float .f64 x0, .float .f64 y0], .agg #[.float .f64 x1, .float .f64 y1], .int .i64 i2] w fun e w' => e = .returned (.bool true) ∧ Bel w w' := by
  have al := World.cell?_alloc_some
  cases p0 : plB x0
  · go_enter Try.func3, Try.ntmps3
    go_wp2_with (first | (go_at_call 4; refine (alive_any _).mono ?_; rintro e w' ⟨rfl, hb⟩; have k00 := keep hb (a := ⟨w.heap.size, 0, none⟩) (v := .float .f64 x0) (by go_keep); have k01 := keep hb (a := ⟨w.heap.size, 1, none⟩) (v := .float .f64 y0) (by go_keep); have k10 := keep hb (a := ⟨w.heap.size + 1, 0, none⟩) (v := .float .f64 x1) (by go_keep); have k11 := keep hb (a := ⟨w.heap.size + 1, 1, none⟩) (v := .float .f64 y1) (by go_keep); have B := hide (bl_trans (a := w) (by repeat (first | exact unhide B | exact bl_refl _ | apply bl_drew | apply bl_drewN | apply bl_alloc | refine bl_set ?_ (by simp <;> omega))) hb); clear hb) | (go_at_call 5; refine (plain_any _ _ (by assumption)).mono ?_; rintro e w' ⟨rfl, rfl⟩))
    go_ret
    exact ⟨rfl, by repeat (first | exact unhide B | exact bl_refl _ | apply bl_drew | apply bl_drewN | apply bl_alloc)⟩
  · skip
    cases p1 : plB y0
    · go_enter Try.func3, Try.ntmps3
      go_wp2_with (first | (go_at_call 4; refine (alive_any _).mono ?_; rintro e w' ⟨rfl, hb⟩; have k00 := keep hb (a := ⟨w.heap.size, 0, none⟩) (v := .float .f64 x0) (by go_keep); have k01 := keep hb (a := ⟨w.heap.size, 1, none⟩) (v := .float .f64 y0) (by go_keep); have k10 := keep hb (a := ⟨w.heap.size + 1, 0, none⟩) (v := .float .f64 x1) (by go_keep); have k11 := keep hb (a := ⟨w.heap.size + 1, 1, none⟩) (v := .float .f64 y1) (by go_keep); have B := hide (bl_trans (a := w) (by repeat (first | exact unhide B | exact bl_refl _ | apply bl_drew | apply bl_drewN | apply bl_alloc | refine bl_set ?_ (by simp <;> omega))) hb); clear hb) | (go_at_call 5; refine (plain_any _ _ (by assumption)).mono ?_; rintro e w' ⟨rfl, rfl⟩))
      go_ret
      exact ⟨rfl, by repeat (first | exact unhide B | exact bl_refl _ | apply bl_drew | apply bl_drewN | apply bl_alloc)⟩
    · skip
      cases p2 : plB x1
      · go_enter Try.func3, Try.ntmps3
        go_wp2_with (first | (go_at_call 4; refine (alive_any _).mono ?_; rintro e w' ⟨rfl, hb⟩; have k00 := keep hb (a := ⟨w.heap.size, 0, none⟩) (v := .float .f64 x0) (by go_keep); have k01 := keep hb (a := ⟨w.heap.size, 1, none⟩) (v := .float .f64 y0) (by go_keep); have k10 := keep hb (a := ⟨w.heap.size + 1, 0, none⟩) (v := .float .f64 x1) (by go_keep); have k11 := keep hb (a := ⟨w.heap.size + 1, 1, none⟩) (v := .float .f64 y1) (by go_keep); have B := hide (bl_trans (a := w) (by repeat (first | exact unhide B | exact bl_refl _ | apply bl_drew | apply bl_drewN | apply bl_alloc | refine bl_set ?_ (by simp <;> omega))) hb); clear hb) | (go_at_call 5; refine (plain_any _ _ (by assumption)).mono ?_; rintro e w' ⟨rfl, rfl⟩))
        go_ret
        exact ⟨rfl, by repeat (first | exact unhide B | exact bl_refl _ | apply bl_drew | apply bl_drewN | apply bl_alloc)⟩
      · skip
        cases p3 : plB y1
        · go_enter Try.func3, Try.ntmps3
          go_wp2_with (first | (go_at_call 4; refine (alive_any _).mono ?_; rintro e w' ⟨rfl, hb⟩; have k00 := keep hb (a := ⟨w.heap.size, 0, none⟩) (v := .float .f64 x0) (by go_keep); have k01 := keep hb (a := ⟨w.heap.size, 1, none⟩) (v := .float .f64 y0) (by go_keep); have k10 := keep hb (a := ⟨w.heap.size + 1, 0, none⟩) (v := .float .f64 x1) (by go_keep); have k11 := keep hb (a := ⟨w.heap.size + 1, 1, none⟩) (v := .float .f64 y1) (by go_keep); have B := hide (bl_trans (a := w) (by repeat (first | exact unhide B | exact bl_refl _ | apply bl_drew | apply bl_drewN | apply bl_alloc | refine bl_set ?_ (by simp <;> omega))) hb); clear hb) | (go_at_call 5; refine (plain_any _ _ (by assumption)).mono ?_; rintro e w' ⟨rfl, rfl⟩))
          go_ret
          exact ⟨rfl, by repeat (first | exact unhide B | exact bl_refl _ | apply bl_drew | apply bl_drewN | apply bl_alloc)⟩
        · skip
          have hq := Int.natAbs_tmod i2 101
          have hq2 : i2.natAbs % (101 : Int).natAbs < 101 := Nat.mod_lt _ (by decide)
          have hb1 : -100 ≤ i2.tmod 101 := by omega
          have hb2 : i2.tmod 101 ≤ 100 := by omega
          clear hq hq2
          obtain ⟨s, hs⟩ : ∃ s, s = pw (i2.tmod 101) := ⟨_, rfl⟩
          have H := scaled_of hb1 hb2 hs ox0 oy0 ox1 oy1 p0 p1 p2 p3
          have LD : ∀ w, Calls Try.prog 6 #[.float .f64 4607182418800017408, .int .i64 (i2.tmod 101)] w fun e w' => e = .returned (.float .f64 s) ∧ w' = w := fun w => by rw [hs]; exact ldexp_one _ hb1 hb2 w
          clear hs
          have F0 := H.px.fx
          have F1 := H.px.fy
          have F2 := H.px.fc
          have F3 := H.px.fd
          have F4 := H.px.fa
          have F5 := H.px.fs
          have F6 := H.px.fh
          have F7 := H.px.ft
          have F8 := H.px.fu
          have F9 := H.px.fm
          have F10 := H.px.fac
          have F11 := H.px.ok.1
          have F12 := H.px.ok.2
          have F13 := H.py.fx
          have F14 := H.py.fy
          have F15 := H.py.fc
          have F16 := H.py.fd
          have F17 := H.py.fa
          have F18 := H.py.fs
          have F19 := H.py.fh
          have F20 := H.py.ft
          have F21 := H.py.fu
          have F22 := H.py.fm
          have F23 := H.py.fac
          have F24 := H.py.ok.1
          have F25 := H.py.ok.2
          have F26 := H.fs
          have F27 := H.dot.f1
          have F28 := H.dot.f2
          have F29 := H.dot.f3
          have F30 := H.dot.f4
          have F31 := H.dot.fr
          have F32 := H.dot.ft
          have F33 := H.dot.o1
          have F34 := H.dot.o2
          have F35 := H.cross.f1
          have F36 := H.cross.f2
          have F37 := H.cross.f3
          have F38 := H.cross.f4
          have F39 := H.cross.fr
          have F40 := H.cross.ft
          have F41 := H.cross.o1
          have F42 := H.cross.o2
          have F43 := H.square.f1
          have F44 := H.square.f2
          have F45 := H.square.f3
          have F46 := H.square.f4
          have F47 := H.square.fr
          have F48 := H.square.ft
          have F49 := H.square.o1
          have F50 := H.square.o2
          have F51 := H.long.1
          have F52 := H.long.2.1
          have F53 := H.long.2.2.1
          have F54 := H.long.2.2.2.1
          have F55 := three_fin
          have FN : finK .f64 (Op.negFloat .f64 y0) = true := by rw [fin_neg _ oy0]; exact H.py.fx
          have hm := run_mul_dv Try.prog
          go_enter Try.func3, Try.ntmps3
          go_wp2_with (first | (go_at_call 4; refine (alive_any _).mono ?_; rintro e w' ⟨rfl, hb⟩; have k00 := keep hb (a := ⟨w.heap.size, 0, none⟩) (v := .float .f64 x0) (by go_keep); have k01 := keep hb (a := ⟨w.heap.size, 1, none⟩) (v := .float .f64 y0) (by go_keep); have k10 := keep hb (a := ⟨w.heap.size + 1, 0, none⟩) (v := .float .f64 x1) (by go_keep); have k11 := keep hb (a := ⟨w.heap.size + 1, 1, none⟩) (v := .float .f64 y1) (by go_keep); have B := hide (bl_trans (a := w) (by repeat (first | exact unhide B | exact bl_refl _ | apply bl_drew | apply bl_drewN | apply bl_alloc | refine bl_set ?_ (by simp <;> omega))) hb); clear hb) | (go_at_call 5; refine (plain_any _ _ (by assumption)).mono ?_; rintro e w' ⟨rfl, rfl⟩) | (go_at_call 6; refine (LD _).mono ?_; rintro e w' ⟨rfl, rfl⟩) | (go_at_call 7; have z := wc; clear z; refine (vScale_det _ _ _ _ (by assumption) (by assumption) (by assumption)).mono ?_; rintro e wd ⟨rfl, hb⟩; have ka_0 := keep hb (a := ⟨w.heap.size, 0, none⟩) (v := .float .f64 x0) (by first | assumption | go_keep); have ka_1 := keep hb (a := ⟨w.heap.size, 1, none⟩) (v := .float .f64 y0) (by first | assumption | go_keep); have kb_0 := keep hb (a := ⟨w.heap.size + 1, 0, none⟩) (v := .float .f64 x1) (by first | assumption | go_keep); have kb_1 := keep hb (a := ⟨w.heap.size + 1, 1, none⟩) (v := .float .f64 y1) (by first | assumption | go_keep); have kc_0 := keep hb (a := ⟨wc.heap.size, 0, none⟩) (v := .float .f64 (Dv .mul x0 s)) (by first | assumption | go_keep); have kc_1 := keep hb (a := ⟨wc.heap.size, 1, none⟩) (v := .float .f64 (Dv .mul y0 s)) (by first | assumption | go_keep); have mark := hide H; have B := hide (bl_trans (a := w) (by repeat (first | exact unhide B | exact bl_refl _ | apply bl_drew | apply bl_drewN | apply bl_alloc | refine bl_set ?_ (by simp <;> omega))) hb); clear hb) | (go_at_call 7; refine (vScale_det _ _ _ _ (by assumption) (by assumption) (by assumption)).mono ?_; rintro e wc ⟨rfl, hb⟩; have ka_0 := keep hb (a := ⟨w.heap.size, 0, none⟩) (v := .float .f64 x0) (by first | assumption | go_keep); have ka_1 := keep hb (a := ⟨w.heap.size, 1, none⟩) (v := .float .f64 y0) (by first | assumption | go_keep); have kb_0 := keep hb (a := ⟨w.heap.size + 1, 0, none⟩) (v := .float .f64 x1) (by first | assumption | go_keep); have kb_1 := keep hb (a := ⟨w.heap.size + 1, 1, none⟩) (v := .float .f64 y1) (by first | assumption | go_keep); have B := hide (bl_trans (a := w) (by repeat (first | exact unhide B | exact bl_refl _ | apply bl_drew | apply bl_drewN | apply bl_alloc | refine bl_set ?_ (by simp <;> omega))) hb); clear hb) | (go_at_call 8; have z := hU; clear z; refine (vUnit_any _ _ _).mono ?_; rintro e wv ⟨xv, yv, bv, hV, rfl, hb⟩; obtain ⟨rfl, t1, t2⟩ := H.unit _ _ _ _ _ _ hU hV; have ka_0 := keep hb (a := ⟨w.heap.size, 0, none⟩) (v := .float .f64 x0) (by first | assumption | go_keep); have ka_1 := keep hb (a := ⟨w.heap.size, 1, none⟩) (v := .float .f64 y0) (by first | assumption | go_keep); have kb_0 := keep hb (a := ⟨w.heap.size + 1, 0, none⟩) (v := .float .f64 x1) (by first | assumption | go_keep); have kb_1 := keep hb (a := ⟨w.heap.size + 1, 1, none⟩) (v := .float .f64 y1) (by first | assumption | go_keep); have kc_0 := keep hb (a := ⟨wc.heap.size, 0, none⟩) (v := .float .f64 (Dv .mul x0 s)) (by first | assumption | go_keep); have kc_1 := keep hb (a := ⟨wc.heap.size, 1, none⟩) (v := .float .f64 (Dv .mul y0 s)) (by first | assumption | go_keep); have kd_0 := keep hb (a := ⟨wd.heap.size, 0, none⟩) (v := .float .f64 (Dv .mul x1 s)) (by first | assumption | go_keep); have kd_1 := keep hb (a := ⟨wd.heap.size, 1, none⟩) (v := .float .f64 (Dv .mul y1 s)) (by first | assumption | go_keep); have ku_0 := keep hb (a := ⟨wu.heap.size, 0, none⟩) (v := .float .f64 xu) (by first | assumption | go_keep); have ku_1 := keep hb (a := ⟨wu.heap.size, 1, none⟩) (v := .float .f64 yu) (by first | assumption | go_keep); have B := hide (bl_trans (a := w) (by repeat (first | exact unhide B | exact bl_refl _ | apply bl_drew | apply bl_drewN | apply bl_alloc | refine bl_set ?_ (by simp <;> omega))) hb); clear hb) | (go_at_call 8; refine (vUnit_any _ _ _).mono ?_; rintro e wu ⟨xu, yu, bu, hU, rfl, hb⟩; have ka_0 := keep hb (a := ⟨w.heap.size, 0, none⟩) (v := .float .f64 x0) (by first | assumption | go_keep); have ka_1 := keep hb (a := ⟨w.heap.size, 1, none⟩) (v := .float .f64 y0) (by first | assumption | go_keep); have kb_0 := keep hb (a := ⟨w.heap.size + 1, 0, none⟩) (v := .float .f64 x1) (by first | assumption | go_keep); have kb_1 := keep hb (a := ⟨w.heap.size + 1, 1, none⟩) (v := .float .f64 y1) (by first | assumption | go_keep); have kc_0 := keep hb (a := ⟨wc.heap.size, 0, none⟩) (v := .float .f64 (Dv .mul x0 s)) (by first | assumption | go_keep); have kc_1 := keep hb (a := ⟨wc.heap.size, 1, none⟩) (v := .float .f64 (Dv .mul y0 s)) (by first | assumption | go_keep); have kd_0 := keep hb (a := ⟨wd.heap.size, 0, none⟩) (v := .float .f64 (Dv .mul x1 s)) (by first | assumption | go_keep); have kd_1 := keep hb (a := ⟨wd.heap.size, 1, none⟩) (v := .float .f64 (Dv .mul y1 s)) (by first | assumption | go_keep); have B := hide (bl_trans (a := w) (by repeat (first | exact unhide B | exact bl_refl _ | apply bl_drew | apply bl_drewN | apply bl_alloc | refine bl_set ?_ (by simp <;> omega))) hb); clear hb))
          have BN := belBy_some (wv.alloc (Obj.cells #[.float .f64 xv, .float .f64 yv] 24))
          have zka0 := belBy_cell (W := (wv.alloc (Obj.cells #[.float .f64 xv, .float .f64 yv] 24))) (a := ⟨w.heap.size, 0, none⟩) (v := .float .f64 x0) (by first | assumption | go_keep)
          have zka1 := belBy_cell (W := (wv.alloc (Obj.cells #[.float .f64 xv, .float .f64 yv] 24))) (a := ⟨w.heap.size, 1, none⟩) (v := .float .f64 y0) (by first | assumption | go_keep)
          have zkb0 := belBy_cell (W := (wv.alloc (Obj.cells #[.float .f64 xv, .float .f64 yv] 24))) (a := ⟨w.heap.size + 1, 0, none⟩) (v := .float .f64 x1) (by first | assumption | go_keep)
          have zkb1 := belBy_cell (W := (wv.alloc (Obj.cells #[.float .f64 xv, .float .f64 yv] 24))) (a := ⟨w.heap.size + 1, 1, none⟩) (v := .float .f64 y1) (by first | assumption | go_keep)
          have zkc0 := belBy_cell (W := (wv.alloc (Obj.cells #[.float .f64 xv, .float .f64 yv] 24))) (a := ⟨wc.heap.size, 0, none⟩) (v := .float .f64 (Dv .mul x0 s)) (by first | assumption | go_keep)
          have zkc1 := belBy_cell (W := (wv.alloc (Obj.cells #[.float .f64 xv, .float .f64 yv] 24))) (a := ⟨wc.heap.size, 1, none⟩) (v := .float .f64 (Dv .mul y0 s)) (by first | assumption | go_keep)
          have zkd0 := belBy_cell (W := (wv.alloc (Obj.cells #[.float .f64 xv, .float .f64 yv] 24))) (a := ⟨wd.heap.size, 0, none⟩) (v := .float .f64 (Dv .mul x1 s)) (by first | assumption | go_keep)
          have zkd1 := belBy_cell (W := (wv.alloc (Obj.cells #[.float .f64 xv, .float .f64 yv] 24))) (a := ⟨wd.heap.size, 1, none⟩) (v := .float .f64 (Dv .mul y1 s)) (by first | assumption | go_keep)
          have zku0 := belBy_cell (W := (wv.alloc (Obj.cells #[.float .f64 xv, .float .f64 yv] 24))) (a := ⟨wu.heap.size, 0, none⟩) (v := .float .f64 xu) (by first | assumption | go_keep)
          have zku1 := belBy_cell (W := (wv.alloc (Obj.cells #[.float .f64 xv, .float .f64 yv] 24))) (a := ⟨wu.heap.size, 1, none⟩) (v := .float .f64 yu) (by first | assumption | go_keep)
          have zkv0 := belBy_cell (W := (wv.alloc (Obj.cells #[.float .f64 xv, .float .f64 yv] 24))) (a := ⟨wv.heap.size, 0, none⟩) (v := .float .f64 xv) (by first | assumption | go_keep)
          have zkv1 := belBy_cell (W := (wv.alloc (Obj.cells #[.float .f64 xv, .float .f64 yv] 24))) (a := ⟨wv.heap.size, 1, none⟩) (v := .float .f64 yv) (by first | assumption | go_keep)
          refine wp_region_quiet_bel (by kernel_rfl) (by kernel_rfl) ?_
          repeat (go_big_quiet_step (first | (go_at_call 10; exact calls_bel (vAdd_det _ _ _ _ _ (by assumption) (by assumption) (by assumption) (by assumption))) | (go_at_call 11; exact calls_bel (vSub_det _ _ _ _ _ (by assumption) (by assumption) (by assumption) (by assumption) (by assumption) (by assumption))) | (go_at_call 7; exact calls_bel (vScale_det _ _ _ _ (by assumption) (by assumption) (by assumption))) | (go_at_call 12; exact calls_bel (vMiddle_det _ _ _ _ _ (by assumption) (by assumption) (by assumption) (by assumption) (by assumption) (by assumption))) | (go_at_call 13; exact calls_bel (vLeft_any _ _ _)) | (go_at_call 14; exact calls_bel (vMore_det _ _ threeB _ _ _ (by assumption) (by assumption) three_fin (by assumption) (by assumption) (by assumption) (by assumption))) | (go_at_call 9; exact calls_bel (is_true _ _ _ _ _ (by first | assumption | exact smK_self _ _ | (rw [H.px.add]; exact smK_self _ _) | (rw [H.px.sub]; exact smK_self _ _) | (rw [H.px.half]; exact smK_self _ _) | (rw [H.px.more]; exact smK_self _ _) | (rw [H.px.left]; exact smK_self _ _) | (rw [H.py.add]; exact smK_self _ _) | (rw [H.py.sub]; exact smK_self _ _) | (rw [H.py.half]; exact smK_self _ _) | (rw [H.py.more]; exact smK_self _ _) | (rw [H.py.left]; exact smK_self _ _)) (by first | assumption | exact smK_self _ _ | (rw [H.px.add]; exact smK_self _ _) | (rw [H.px.sub]; exact smK_self _ _) | (rw [H.px.half]; exact smK_self _ _) | (rw [H.px.more]; exact smK_self _ _) | (rw [H.px.left]; exact smK_self _ _) | (rw [H.py.add]; exact smK_self _ _) | (rw [H.py.sub]; exact smK_self _ _) | (rw [H.py.half]; exact smK_self _ _) | (rw [H.py.more]; exact smK_self _ _) | (rw [H.py.left]; exact smK_self _ _)))) | (go_at_call 16; exact calls_bel (vDot_det _ _ _ _ _ (by assumption) (by assumption) (by assumption) (by assumption) (by assumption) (by assumption))) | (go_at_call 17; exact calls_bel (vCross_det _ _ _ _ _ (by assumption) (by assumption) (by assumption) (by assumption) (by assumption) (by assumption) (by assumption))) | (go_at_call 18; exact calls_bel (vSquare_det _ _ _ (by assumption) (by assumption) (by assumption) (by assumption))) | (go_at_call 19; exact calls_bel (vLength_det _ _ _ (by assumption) (by assumption) (by assumption) (by assumption) (by assumption) (by assumption))) | (go_at_call 15; exact calls_bel0 (one_true _ _ _ (by first | exact smK_self _ _ | (rw [H.dot.eq]; exact smK_self _ _) | (rw [H.cross.eq]; exact smK_self _ _) | (rw [H.square.eq]; exact smK_self _ _) | (rw [H.long.2.2.2.2]; exact smK_self _ _))))))
          refine wpQuiet_nil ?_
          intro _ hw'
          obtain ⟨pp, rfl⟩ := hw'
          go_wp2
          have BN2 := belBy_some pp.world
          have yka0 := belBy_cell (W := pp.world) (zka0 pp)
          have yka1 := belBy_cell (W := pp.world) (zka1 pp)
          have ykb0 := belBy_cell (W := pp.world) (zkb0 pp)
          have ykb1 := belBy_cell (W := pp.world) (zkb1 pp)
          have ykc0 := belBy_cell (W := pp.world) (zkc0 pp)
          have ykc1 := belBy_cell (W := pp.world) (zkc1 pp)
          have ykd0 := belBy_cell (W := pp.world) (zkd0 pp)
          have ykd1 := belBy_cell (W := pp.world) (zkd1 pp)
          have yku0 := belBy_cell (W := pp.world) (zku0 pp)
          have yku1 := belBy_cell (W := pp.world) (zku1 pp)
          have ykv0 := belBy_cell (W := pp.world) (zkv0 pp)
          have ykv1 := belBy_cell (W := pp.world) (zkv1 pp)
          refine wp_region_quiet_bel (by kernel_rfl) (by kernel_rfl) ?_
          repeat (go_big_quiet_step (first | (go_at_call 10; exact calls_bel (vAdd_det _ _ _ _ _ (by assumption) (by assumption) (by assumption) (by assumption))) | (go_at_call 11; exact calls_bel (vSub_det _ _ _ _ _ (by assumption) (by assumption) (by assumption) (by assumption) (by assumption) (by assumption))) | (go_at_call 7; exact calls_bel (vScale_det _ _ _ _ (by assumption) (by assumption) (by assumption))) | (go_at_call 12; exact calls_bel (vMiddle_det _ _ _ _ _ (by assumption) (by assumption) (by assumption) (by assumption) (by assumption) (by assumption))) | (go_at_call 13; exact calls_bel (vLeft_any _ _ _)) | (go_at_call 14; exact calls_bel (vMore_det _ _ threeB _ _ _ (by assumption) (by assumption) three_fin (by assumption) (by assumption) (by assumption) (by assumption))) | (go_at_call 9; exact calls_bel (is_true _ _ _ _ _ (by first | assumption | exact smK_self _ _ | (rw [H.px.add]; exact smK_self _ _) | (rw [H.px.sub]; exact smK_self _ _) | (rw [H.px.half]; exact smK_self _ _) | (rw [H.px.more]; exact smK_self _ _) | (rw [H.px.left]; exact smK_self _ _) | (rw [H.py.add]; exact smK_self _ _) | (rw [H.py.sub]; exact smK_self _ _) | (rw [H.py.half]; exact smK_self _ _) | (rw [H.py.more]; exact smK_self _ _) | (rw [H.py.left]; exact smK_self _ _)) (by first | assumption | exact smK_self _ _ | (rw [H.px.add]; exact smK_self _ _) | (rw [H.px.sub]; exact smK_self _ _) | (rw [H.px.half]; exact smK_self _ _) | (rw [H.px.more]; exact smK_self _ _) | (rw [H.px.left]; exact smK_self _ _) | (rw [H.py.add]; exact smK_self _ _) | (rw [H.py.sub]; exact smK_self _ _) | (rw [H.py.half]; exact smK_self _ _) | (rw [H.py.more]; exact smK_self _ _) | (rw [H.py.left]; exact smK_self _ _)))) | (go_at_call 16; exact calls_bel (vDot_det _ _ _ _ _ (by assumption) (by assumption) (by assumption) (by assumption) (by assumption) (by assumption))) | (go_at_call 17; exact calls_bel (vCross_det _ _ _ _ _ (by assumption) (by assumption) (by assumption) (by assumption) (by assumption) (by assumption) (by assumption))) | (go_at_call 18; exact calls_bel (vSquare_det _ _ _ (by assumption) (by assumption) (by assumption) (by assumption))) | (go_at_call 19; exact calls_bel (vLength_det _ _ _ (by assumption) (by assumption) (by assumption) (by assumption) (by assumption) (by assumption))) | (go_at_call 15; exact calls_bel0 (one_true _ _ _ (by first | exact smK_self _ _ | (rw [H.dot.eq]; exact smK_self _ _) | (rw [H.cross.eq]; exact smK_self _ _) | (rw [H.square.eq]; exact smK_self _ _) | (rw [H.long.2.2.2.2]; exact smK_self _ _))))))
          refine wpQuiet_nil ?_
          intro _ hw'
          obtain ⟨qq, rfl⟩ := hw'
          have xka0 := yka0 qq
          have xka1 := yka1 qq
          have xkb0 := ykb0 qq
          have xkb1 := ykb1 qq
          have xkc0 := ykc0 qq
          have xkc1 := ykc1 qq
          have xkd0 := ykd0 qq
          have xkd1 := ykd1 qq
          have xku0 := yku0 qq
          have xku1 := yku1 qq
          have xkv0 := ykv0 qq
          have xkv1 := ykv1 qq
          have B := hide (bl_trans (bl_trans (bl_alloc (unhide B) _ _) pp.h) qq.h)
          go_wp2_with (first | (go_at_call 9; refine (is_true _ _ _ _ _ (by first | assumption | exact smK_self _ _ | (rw [H.px.add]; exact smK_self _ _) | (rw [H.px.sub]; exact smK_self _ _) | (rw [H.px.half]; exact smK_self _ _) | (rw [H.px.more]; exact smK_self _ _) | (rw [H.px.left]; exact smK_self _ _) | (rw [H.py.add]; exact smK_self _ _) | (rw [H.py.sub]; exact smK_self _ _) | (rw [H.py.half]; exact smK_self _ _) | (rw [H.py.more]; exact smK_self _ _) | (rw [H.py.left]; exact smK_self _ _)) (by first | assumption | exact smK_self _ _ | (rw [H.px.add]; exact smK_self _ _) | (rw [H.px.sub]; exact smK_self _ _) | (rw [H.px.half]; exact smK_self _ _) | (rw [H.px.more]; exact smK_self _ _) | (rw [H.px.left]; exact smK_self _ _) | (rw [H.py.add]; exact smK_self _ _) | (rw [H.py.sub]; exact smK_self _ _) | (rw [H.py.half]; exact smK_self _ _) | (rw [H.py.more]; exact smK_self _ _) | (rw [H.py.left]; exact smK_self _ _))).mono ?_; rintro e w7 ⟨rfl, hb⟩; have j0 := keep hb xkc0; have j1 := keep hb xkc1; have B := hide (bl_trans (a := w) (by repeat (first | exact unhide B | exact bl_refl _ | apply bl_drew | apply bl_drewN | apply bl_alloc | refine bl_set ?_ (by simp <;> omega))) hb); clear hb) | (go_at_call 20; refine (rFinite_any _ _ _).mono ?_; rintro e w8 ⟨rfl, hb⟩; have B := hide (bl_trans (a := w) (by repeat (first | exact unhide B | exact bl_refl _ | apply bl_drew | apply bl_drewN | apply bl_alloc | refine bl_set ?_ (by simp <;> omega))) hb); clear hb))
          go_ret
          exact ⟨rfl, by repeat (first | exact unhide B | exact bl_refl _ | apply bl_drew | apply bl_drewN | apply bl_alloc)⟩

set_option maxRecDepth 100000 in
theorem lifted (os : Os) (started : os.Started) (H : Type) (enc : TypeId × Value → H) :
    ReturnsInHanded {} Try.checked os 3 .any (Rows.vecScaledSpec.pre6 enc Try.prog Try.f3 Rows.vecScaledRow.domain false) (Rows.vecScaledSpec.post enc Try.prog Try.f3 false true false false) := by
  refine returnsInHanded_of_change (C := Try.checked) own started (by kernel_rfl) Try.func3
    (ChangeSpec.witness6 (enc := enc) (C := Try.checked) false ⟨#[], #[.agg #[.float .f64 0, .float .f64 0], .agg #[.float .f64 0, .float .f64 0], .int .i64 0], []⟩ 8 (by kernel_rfl) (by kernel_rfl) (by kernel_rfl) (by kernel_rfl)) ?_
  intro W base args ds gs before hval0 hW hcnd _
  have hval : ∀ (j : Nat) t v, Try.f3.params[j]? = some t → args[j]? = some v → Value.okWide Try.prog W .any base t v := hval0
  have hW' := hW
  obtain ⟨p, q, hA0, hV, rfl, hfz, hnd⟩ := hW
  have hA : DataW.TrodAll enc Try.prog W 0 (fun _ => true) true Try.f3.params.toList args.toList ds p := hA0
  rw [Try.params3] at hA hval
  obtain ⟨v0, vs0, d0, ds0, p0, q0, hargs, rfl, rfl, h0, r0⟩ := trodAll_cons hA
  obtain ⟨v1, vs1, d1, ds1, p1, q1, rfl, rfl, rfl, h1, r1⟩ := trodAll_cons r0
  obtain ⟨v2, vs2, d2, ds2, p2, q2, rfl, rfl, rfl, h2, r2⟩ := trodAll_cons r1
  obtain ⟨rfl, rfl, rfl⟩ := trodAll_nil r2
  obtain rfl : args = #[v0, v1, v2] := by cases args; simp_all
  obtain ⟨rfl, rfl⟩ := trodVars_none hV
  obtain ⟨c0, k0, z0, u0, m0, rfl, rfl, rfl, hz0, hu0⟩ := open_agg2 Try.underlying24 (by kernel_rfl) cellsV (hval 0 24 v0 rfl rfl) h0
  obtain ⟨x0, e0, rfl, wx0⟩ := trod_fl Try.underlying22 hz0
  obtain ⟨y0, e1, rfl, wy0⟩ := trod_fl Try.underlying22 hu0
  simp at e0 e1
  subst e0 e1
  obtain ⟨c1, k1, z1, u1, m1, rfl, rfl, rfl, hz1, hu1⟩ := open_agg2 Try.underlying24 (by kernel_rfl) cellsV (hval 1 24 v1 rfl rfl) h1
  obtain ⟨x1, e0, rfl, wx1⟩ := trod_fl Try.underlying22 hz1
  obtain ⟨y1, e1, rfl, wy1⟩ := trod_fl Try.underlying22 hu1
  simp at e0 e1
  subst e0 e1
  obtain ⟨i2, rfl, rfl, rfl, wi2⟩ := open_int Try.underlying3 (hval 2 3 v2 rfl rfl) h2
  clear hA0 hval0
  simp only [List.append_nil] at hW'
  refine (walk x0 y0 x1 y1 i2 (wf_f64 wx0) (wf_f64 wy0) (wf_f64 wx1) (wf_f64 wy1) wi2 W).mono fun e W' ⟨he, hg0⟩ => ?_
  have hg := hg0.grown
  subst he
  exact ⟨_, rfl, post_of_same (pa := []) (pv := []) hW' (fun _ _ _ => (trodAll_cons_mk (shut_bool Try.underlying4 _) trodAll_mk0)) (fun sp _ => (trodAll_cons_mk (shut_agg2 (y0 := (.lit (.float .f64 x0), [])) (y1 := (.lit (.float .f64 y0), [])) Try.underlying24 (by kernel_rfl) cellsV ⟨1, by simp [DataW.trod, Try.underlying22, wx0]⟩ ⟨1, by simp [DataW.trod, Try.underlying22, wy0]⟩) (trodAll_cons_mk (shut_agg2 (y0 := (.lit (.float .f64 x1), [])) (y1 := (.lit (.float .f64 y1), [])) Try.underlying24 (by kernel_rfl) cellsV ⟨1, by simp [DataW.trod, Try.underlying22, wx1]⟩ ⟨1, by simp [DataW.trod, Try.underlying22, wy1]⟩) (trodAll_cons_mk (shut_int Try.underlying3 wi2) trodAll_mk0)))) (fun _ _ => rfl) rfl
    (hg.frame _) hg.2.1 (ok_one (by kernel_rfl) rfl (okWide_bool_mk Try.underlying4 _))⟩

theorem over : Rows.vecScaledRow.holds Try.pinned (OpenSpec.ofChange Rows.vecScaledSpec) :=
  OpenClaim.holds_of_wide 3 Try.f3 rfl rfl rfl rfl rfl rfl rfl ⟨rfl, rfl, rfl, rfl, rfl⟩ rfl rfl rfl rfl rfl (by kernel_rfl) Try.func3 (by kernel_rfl)
    (of_decide_eq_true (by kernel_rfl)) (by unfold Func.isWrapper; first | (rw [if_pos (by decide +kernel)]; kernel_rfl) | (rw [if_neg (by decide +kernel)]; exact ⟨rfl, rfl⟩))
    (fun os started H enc _ => lifted os started H enc)

theorem proved : Rows.VecScaledSaid :=
  over
#print axioms proved
end Go.Proofs.Ytdlendamklcinab.vecScaled
