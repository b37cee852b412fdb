/-
  What each function of package poly answers, and what the reference of its chapter answers: one contract a function, for every float: the answer stands in the relation of its formula to what was given; of the memory that was there nothing has turned.
-/
import Derived.Test.YtfohggiehbplkaaVec
import Derived.Test.YtfohggiehbplkaaKl
import Derived.Below
import Derived.WalkKit
import Derived.WalkLawsBesides
import Derived.WalkSpells
import Derived.ProofKit
import Derived.OpenShut
import Derived.Deep.RegionHeld3
namespace Go.Proofs.Ytfohggiehbplkaa
open Go.ChangeShapes Go.WideShapes Go.ChangeAt Go.RowKit
set_option linter.unusedVariables false
set_option linter.unusedSimpArgs false


set_option maxRecDepth 100000 in
set_option maxHeartbeats 4000000 in
theorem rk_ok (T : TD) (pb po pn pc_ : Nat) (ps : Option Addr) (P : Nat → PD) (rb ro rn rc_ : Nat) (rs : Option Addr) (Q : Nat → RD) (w : World) (hps : pn = 0 ∨ ps = some ⟨pb, po, none⟩) (hpc : pn ≤ pc_) (hpm : pc_ ≤ maxLen) (hp : Pts w pb po pn P) (op : ∀ i, i < pn → pok (P i)) (oT : okK .f64 T.tx ∧ okK .f64 T.ty) (hrs : rn = 0 ∨ rs = some ⟨rb, ro, none⟩) (hrc : rn ≤ rc_) (hrm : rc_ ≤ maxLen) (hr : Rws w rb ro rn Q) (hp70 : pn ≤ 70) (hr200 : rn ≤ 200) (he : ckE T pn P = 0) (hne : Hid (rn = rwN T pn)) : Calls Try.prog 3 #[.agg #[.int .i64 T.ta, .int .i64 T.tp, .int .i64 T.tb, .int .i64 T.tq, .bool T.ts, .float .f64 T.tx, .float .f64 T.ty, .slice ps pn pc_], .slice rs rn rc_] w fun e w' => e = .returned (.bool true) ∧ Below w.heap.size w w' := by
  have hT : (w.alloc (.cells #[.int .i64 T.ta, .int .i64 T.tp, .int .i64 T.tb, .int .i64 T.tq, .bool T.ts, .float .f64 T.tx, .float .f64 T.ty, .slice ps pn pc_] 29)).rangeAt (w.heap.size) 0 [.int .i64 T.ta, .int .i64 T.tp, .int .i64 T.tb, .int .i64 T.tq, .bool T.ts, .float .f64 T.tx, .float .f64 T.ty, .slice ps pn pc_] := rng_new w [.int .i64 T.ta, .int .i64 T.tp, .int .i64 T.tb, .int .i64 T.tq, .bool T.ts, .float .f64 T.tx, .float .f64 T.ty, .slice ps pn pc_] 29
  have BB : Bel w (w.alloc (.cells #[.int .i64 T.ta, .int .i64 T.tp, .int .i64 T.tb, .int .i64 T.tq, .bool T.ts, .float .f64 T.tx, .float .f64 T.ty, .slice ps pn pc_] 29)) := bl_alloc (bl_refl w) _ _
  have hz0 : (w.alloc (.cells #[.int .i64 T.ta, .int .i64 T.tp, .int .i64 T.tb, .int .i64 T.tq, .bool T.ts, .float .f64 T.tx, .float .f64 T.ty, .slice ps pn pc_] 29)).heap.size = w.heap.size + 1 := by simp only [World.size_alloc]
  have hI : ¬ (70 : Int) < (pn : Int) := by omega
  have hJ : ¬ (200 : Int) < (rn : Int) := by omega
  have hn1 := (ck_eight he).1
  go_enter Try.func3, Try.ntmps3
  repeat ((fail_if_success (with_reducible show wpList _ _ _ ({ dst := some 32, op := _, type := _, pos := _, after := _, guard := _ } :: _) _ _)); (first | (go_at_call 9; (with_reducible refine (alive20 _).mono ?_); rintro e w1 ⟨rfl, hb1⟩; replace hT := rng_bel hT hb1; have hzhb1 := hb1.size; replace BB := bl_trans BB hb1; have kS := hT 7 _ rfl; rw [Nat.zero_add] at kS) | ((with_reducible show Oper.wp _ { dst := some 28, op := Op.load 29 _, type := _, pos := _, after := _, guard := _ } _ _ _ _); refine wp_load_mid (P := Try.prog) 29 _ rfl _ _ rfl [.int .i64 T.ta, .int .i64 T.tp, .int .i64 T.tb, .int .i64 T.tq, .bool T.ts, .float .f64 T.tx, .float .f64 T.ty, .slice ps pn pc_] _ hT Try.underlying29 rfl (by kernel_rfl) ?_; (try simp only [go_sem])) | (go_at_call 10; (with_reducible refine (borrowed_w T pb po pn pc_ ps P _ hps hpc hpm (hp.bel BB) op (by omega)).mono ?_); rintro e w2 ⟨gu, cu, hgu1, hgu2, hgu3, hPu, h77, rfl, hb2⟩; replace hT := rng_bel hT hb2; have hzhb2 := hb2.size; replace BB := bl_trans BB hb2; have hX2 : (w2.alloc (.cells #[.int .i64 0, .int .i64 0, .int .i64 0, .int .i64 0, .bool false, .float .f64 0, .float .f64 0, .slice none 0 0] 29)).there w2.heap.size 0 8 := there_new w2 [.int .i64 0, .int .i64 0, .int .i64 0, .int .i64 0, .bool false, .float .f64 0, .float .f64 0, .slice none 0 0] 29) | ((with_reducible show Oper.wp _ { dst := _, op := Op.store 29 _ _, type := _, pos := _, after := _, guard := _ } _ _ _ _); refine wp_store_abs (P := Try.prog) 29 _ _ rfl (w2.heap.size) 0 #[.int .i64 T.ta, .int .i64 T.tp, .int .i64 T.tb, .int .i64 T.tq, .bool T.ts, .float .f64 T.tx, .float .f64 T.ty, (.slice (some ⟨gu, 0, none⟩) pn cu)] rfl rfl hX2 (by kernel_rfl) (by kernel_rfl) (fun V => Bel w2 V ∧ V.rangeAt w2.heap.size 0 [.int .i64 T.ta, .int .i64 T.tp, .int .i64 T.tb, .int .i64 T.tq, .bool T.ts, .float .f64 T.tx, .float .f64 T.ty, (.slice (some ⟨gu, 0, none⟩) pn cu)]) ⟨bel_setsJ _ _ (bl_alloc (bl_refl _) _ _) (Nat.le_refl _), World.rangeAt_setCells_same _ _ _ _ hX2⟩ ?_; rintro w4 ⟨hb4, hU⟩; (try simp only [go_sem])) | go_values | go_skip | go_guarded | go_step | go_upon | go_back | dsimp only))
  have hz4 := hb4.size
  have hzU := World.block_lt_of_cell? _ _ (hU 0 _ rfl)
  simp only at hzU
  have hPu0 := hPu.lt (by omega)
  replace hT := rng_bel hT hb4
  replace hPu := hPu.bel hb4
  replace h77 := keep hb4 h77
  replace BB := bl_trans BB hb4
  obtain ⟨gk, ks, kc, w5, hr1, hks, hkc, hkm, hRk, hb5⟩ := app_rows rb ro rn rc_ rs Q w4 _ hrs hrc hrm (hr.bel BB) rfl hr200
  have hz5 := hb5.size
  have hRk0 := hRk
  replace hT := rng_bel hT hb5
  replace hU := rng_bel hU hb5
  replace hPu := hPu.bel hb5
  replace h77 := keep hb5 h77
  replace BB := bl_trans BB hb5
  repeat (first | ((with_reducible show wpList _ _ _ ({ dst := some 32, op := _, type := _, pos := _, after := _, guard := _ } :: _) _ _); at_builtin; refine wpList_runX 30 rfl (.tmp 30) (.tmp 31) rfl rfl rfl hr1 ?_) | ((with_reducible show Oper.wp _ { dst := some 34, op := Op.load 29 _, type := _, pos := _, after := _, guard := _ } _ _ _ _); refine wp_load_mid (P := Try.prog) 29 _ rfl _ _ rfl [.int .i64 T.ta, .int .i64 T.tp, .int .i64 T.tb, .int .i64 T.tq, .bool T.ts, .float .f64 T.tx, .float .f64 T.ty, (.slice (some ⟨gu, 0, none⟩) pn cu)] _ hU Try.underlying29 rfl (by kernel_rfl) ?_; (try simp only [go_sem])) | (go_at_call 11; (with_reducible refine (keep_ok T gu 0 pn cu (some ⟨gu, 0, none⟩) P gk 0 rn kc ks Q _ (.inr rfl) (by omega) hgu2 hPu op hks hkc hkm hRk he (unhide hne)).mono ?_); rintro e w6 ⟨ga, ca, hga1, hga2, hga3, hPa, hta, rfl, hb6⟩; replace hT := rng_bel hT hb6; replace hU := rng_bel hU hb6; replace h77 := keep hb6 h77; replace hPu := hPu.bel hb6; replace hRk := hRk.bel hb6; have hzhb6 := hb6.size; replace BB := bl_trans BB hb6; have hX6 : (w6.alloc (.cells #[.int .i64 0, .int .i64 0, .int .i64 0, .int .i64 0, .bool false, .float .f64 0, .float .f64 0, .slice none 0 0] 29)).there w6.heap.size 0 8 := there_new w6 [.int .i64 0, .int .i64 0, .int .i64 0, .int .i64 0, .bool false, .float .f64 0, .float .f64 0, .slice none 0 0] 29; have hgal := hPa.lt (by omega)) | ((with_reducible show Oper.wp _ { dst := _, op := Op.store 29 _ _, type := _, pos := _, after := _, guard := _ } _ _ _ _); refine wp_store_abs (P := Try.prog) 29 _ _ rfl (w6.heap.size) 0 #[.int .i64 T.ta, .int .i64 T.tp, .int .i64 T.tb, .int .i64 T.tq, .bool T.ts, .float .f64 T.tx, .float .f64 T.ty, (.slice (some ⟨ga, 0, none⟩) pn ca)] rfl rfl hX6 (by kernel_rfl) (by kernel_rfl) (fun V => Bel w6 V ∧ V.rangeAt w6.heap.size 0 [.int .i64 T.ta, .int .i64 T.tp, .int .i64 T.tb, .int .i64 T.tq, .bool T.ts, .float .f64 T.tx, .float .f64 T.ty, (.slice (some ⟨ga, 0, none⟩) pn ca)]) ⟨bel_setsJ _ _ (bl_alloc (bl_refl _) _ _) (Nat.le_refl _), World.rangeAt_setCells_same _ _ _ _ hX6⟩ ?_; rintro w7 ⟨hb7, hA⟩; replace hT := rng_bel hT hb7; replace hU := rng_bel hU hb7; replace h77 := keep hb7 h77; replace hPu := hPu.bel hb7; replace hPa := hPa.bel hb7; replace hRk := hRk.bel hb7; replace hta := bel_there hta hb7; have hzhb7 := hb7.size; replace BB := bl_trans BB hb7; (try simp only [go_sem])) | ((with_reducible show Oper.wp _ { dst := some 40, op := Op.load 29 _, type := _, pos := _, after := _, guard := _ } _ _ _ _); refine wp_load_mid (P := Try.prog) 29 _ rfl _ _ rfl [.int .i64 T.ta, .int .i64 T.tp, .int .i64 T.tb, .int .i64 T.tq, .bool T.ts, .float .f64 T.tx, .float .f64 T.ty, .slice ps pn pc_] _ hT Try.underlying29 rfl (by kernel_rfl) ?_; (try simp only [go_sem])) | (go_at_call 12; (with_reducible refine (rkeep_ok T pb po pn pc_ ps P rb ro rn rc_ rs Q _ hps hpc hpm (hp.bel BB) op oT hrs hrc hrm (hr.bel BB) he (unhide hne)).mono ?_); rintro e w8 ⟨gw, cw, hgw1, hgw2, hgw3, hPw, htw, rfl, hb8⟩; replace hT := rng_bel hT hb8; replace hU := rng_bel hU hb8; replace hA := rng_bel hA hb8; replace h77 := keep hb8 h77; replace hPu := hPu.bel hb8; replace hPa := hPa.bel hb8; replace hRk := hRk.bel hb8; replace hta := bel_there hta hb8; have hzhb8 := hb8.size; replace BB := bl_trans BB hb8; have hX8 : (w8.alloc (.cells #[.int .i64 0, .int .i64 0, .int .i64 0, .int .i64 0, .bool false, .float .f64 0, .float .f64 0, .slice none 0 0] 29)).there w8.heap.size 0 8 := there_new w8 [.int .i64 0, .int .i64 0, .int .i64 0, .int .i64 0, .bool false, .float .f64 0, .float .f64 0, .slice none 0 0] 29) | ((with_reducible show Oper.wp _ { dst := _, op := Op.store 29 _ _, type := _, pos := _, after := _, guard := _ } _ _ _ _); refine wp_store_abs (P := Try.prog) 29 _ _ rfl (w8.heap.size) 0 #[.int .i64 T.ta, .int .i64 T.tp, .int .i64 T.tb, .int .i64 T.tq, .bool T.ts, .float .f64 T.tx, .float .f64 T.ty, (.slice (some ⟨gw, 0, none⟩) pn cw)] rfl rfl hX8 (by kernel_rfl) (by kernel_rfl) (fun V => Bel w8 V ∧ V.rangeAt w8.heap.size 0 [.int .i64 T.ta, .int .i64 T.tp, .int .i64 T.tb, .int .i64 T.tq, .bool T.ts, .float .f64 T.tx, .float .f64 T.ty, (.slice (some ⟨gw, 0, none⟩) pn cw)]) ⟨bel_setsJ _ _ (bl_alloc (bl_refl _) _ _) (Nat.le_refl _), World.rangeAt_setCells_same _ _ _ _ hX8⟩ ?_; rintro w9 ⟨hb9, hW⟩; replace hT := rng_bel hT hb9; replace hU := rng_bel hU hb9; replace hA := rng_bel hA hb9; replace h77 := keep hb9 h77; replace hPu := hPu.bel hb9; replace hPa := hPa.bel hb9; replace hPw := hPw.bel hb9; replace hRk := hRk.bel hb9; replace hta := bel_there hta hb9; have hzhb9 := hb9.size; replace BB := bl_trans BB hb9; (try simp only [go_sem])) | ((with_reducible show Oper.wp _ { dst := some 45, op := Op.load 29 _, type := _, pos := _, after := _, guard := _ } _ _ _ _); refine wp_load_mid (P := Try.prog) 29 _ rfl _ _ rfl [.int .i64 T.ta, .int .i64 T.tp, .int .i64 T.tb, .int .i64 T.tq, .bool T.ts, .float .f64 T.tx, .float .f64 T.ty, (.slice (some ⟨ga, 0, none⟩) pn ca)] _ hA Try.underlying29 rfl (by kernel_rfl) ?_; (try simp only [go_sem])) | ((with_reducible show Oper.wp _ { dst := some 46, op := Op.load 29 _, type := _, pos := _, after := _, guard := _ } _ _ _ _); refine wp_load_mid (P := Try.prog) 29 _ rfl _ _ rfl [.int .i64 T.ta, .int .i64 T.tp, .int .i64 T.tb, .int .i64 T.tq, .bool T.ts, .float .f64 T.tx, .float .f64 T.ty, (.slice (some ⟨gw, 0, none⟩) pn cw)] _ hW Try.underlying29 rfl (by kernel_rfl) ?_; (try simp only [go_sem])) | (go_at_call 13; (with_reducible refine (sameT T ga 0 ca gw 0 cw pn (some ⟨ga, 0, none⟩) (some ⟨gw, 0, none⟩) (kpP P Q (mN T pn)) _ (.inr rfl) (.inr rfl) hga1 hgw1 (by omega) hPa hPw).mono ?_); rintro e w10 ⟨rfl, hb10⟩; replace hT := rng_bel hT hb10; replace hU := rng_bel hU hb10; replace hA := rng_bel hA hb10; replace h77 := keep hb10 h77; replace hPu := hPu.bel hb10; replace hPa := hPa.bel hb10; replace hRk := hRk.bel hb10; replace hta := bel_there hta hb10; have hzhb10 := hb10.size; replace BB := bl_trans BB hb10; have kA := hA 7 _ rfl; rw [Nat.zero_add] at kA) | go_values | go_skip | go_guarded | go_step | go_upon | go_back | dsimp only)
  have hn1 := (ck_eight he).1
  have hgu9 : gu ≠ ga := by have := hPu0; omega
  have hrk9 : rn = 0 ∨ gk ≠ ga := by rcases Nat.eq_zero_or_pos rn with h | h; exact .inl h; exact .inr (by have := hRk0.lt h; omega)
  have hne1 : w.heap.size ≠ ga := by omega
  have hne2 : w2.heap.size ≠ ga := by omega
  have hne3 : w6.heap.size ≠ ga := by omega
  have hzA := World.block_lt_of_cell? _ _ kA
  simp only at hzA
  generalize hw6 : w6.heap.size = ba at kA hA hne3 ⊢
  generalize hw2 : w2.heap.size = bu at hU hne2 ⊢
  clear hA hPa
  go_loopw [13] (fun i wr => ∃ k : Nat, k ≤ pn ∧ i = .int .i64 k ∧ Fx [ga] w10 wr) (fun i _ => pn - (intOf i).toNat)
  case atStart => exact ⟨0, by omega, rfl, Fx.refl _ _⟩
  case round =>
    obtain ⟨k, hk, rfl, hfx⟩ := hrel
    have kA1 := hfx.cell (by simp only [List.mem_singleton]; exact hne3) kA
    by_cases hlt : k < pn
    · have hkI : (k : Int) < (pn : Int) := by omega
      have hkC : (k : Int) < (ca : Int) := by omega
      have hth := there_sub (o := k * 6) (n := 6) (hfx.thr _ _ _ hta) (by omega)
      repeat (first | ((with_reducible show Oper.wp _ { dst := _, op := Op.build 39 _, type := _, pos := _, after := _, guard := _ } _ _ _ _); refine wp_build 39 _ rfl (.agg #[.float .f64 0, .float .f64 0, .float .f64 0, .int .u32 5, .float .f64 0, .float .f64 0]) (by kernel_rfl) ?_; simp only [go_sem]) | ((with_reducible show Oper.wp _ { dst := _, op := Op.store 39 _ _, type := _, pos := _, after := _, guard := _ } _ _ _ _); refine wp_store_mid (P := Try.prog) 39 _ _ rfl (ga) (k * 6) #[.float .f64 0, .float .f64 0, .float .f64 0, .int .u32 5, .float .f64 0, .float .f64 0] rfl rfl hth (by kernel_rfl) (by kernel_rfl) ?_; (try simp only [go_sem])) | go_values | go_skip | go_guarded | go_step | go_upon | go_back | dsimp only)
      exact ⟨⟨k + 1, by omega, by go_num, hfx.sets (by simp) _ _⟩, by simp [intOf]; omega⟩
    · have hnl : ¬ (k : Int) < (pn : Int) := by omega
      replace hT := hfx.rng (by simp only [List.mem_singleton]; exact hne1) hT
      replace hU := hfx.rng (by simp only [List.mem_singleton]; exact hne2) hU
      replace h77 := hfx.cell (by simp only [List.mem_singleton]; exact hgu9) h77
      replace hPu : Pts wr gu 0 pn P := fun i hi => hfx.rng (by simp only [List.mem_singleton]; exact hgu9) (hPu i hi)
      replace hRk : Rws wr gk 0 rn Q := fun i hi => hfx.rng (by simp only [List.mem_singleton]; rcases hrk9 with h | h; omega; exact h) (hRk i hi)
      replace BB := hfx.bel BB (by simp only [List.mem_singleton]; rintro _ rfl; omega)
      repeat (first | ((with_reducible show Oper.wp _ { dst := some 60, op := Op.load 29 _, type := _, pos := _, after := _, guard := _ } _ _ _ _); refine wp_load_mid (P := Try.prog) 29 _ rfl _ _ rfl [.int .i64 T.ta, .int .i64 T.tp, .int .i64 T.tb, .int .i64 T.tq, .bool T.ts, .float .f64 T.tx, .float .f64 T.ty, (.slice (some ⟨gu, 0, none⟩) pn cu)] _ hU Try.underlying29 rfl (by kernel_rfl) ?_; (try simp only [go_sem])) | ((with_reducible show Oper.wp _ { dst := some 61, op := Op.load 29 _, type := _, pos := _, after := _, guard := _ } _ _ _ _); refine wp_load_mid (P := Try.prog) 29 _ rfl _ _ rfl [.int .i64 T.ta, .int .i64 T.tp, .int .i64 T.tb, .int .i64 T.tq, .bool T.ts, .float .f64 T.tx, .float .f64 T.ty, .slice ps pn pc_] _ hT Try.underlying29 rfl (by kernel_rfl) ?_; (try simp only [go_sem])) | (go_at_call 14; (with_reducible refine (back_w T pb po pn pc_ ps P gu cu _ hps hpc hpm (hp.bel BB) op (by omega) hgu1 hgu2 hPu h77).mono ?_); rintro e w11 ⟨rfl, hb11⟩; replace hRk := hRk.bel hb11; have hzhb11 := hb11.size; replace BB := bl_trans BB hb11) | (go_at_call 15; (with_reducible refine (sameRows20 gk 0 kc rb ro rc_ rn ks rs Q _ hks hrs hkc hrc (by omega) hRk (hr.bel BB)).mono ?_); rintro e w12 ⟨rfl, hb12⟩; replace BB := bl_trans BB hb12) | go_values | go_skip | go_guarded | go_step | go_upon | go_back | dsimp only)
      go_ret
      exact ⟨rfl, BB.1⟩

end Go.Proofs.Ytfohggiehbplkaa
