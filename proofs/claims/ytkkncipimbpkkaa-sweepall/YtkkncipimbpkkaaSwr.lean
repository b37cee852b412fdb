/-
  What each function of package sweep answers, and what the reference of its chapter answers: one contract a function, for every list of boxes; of the memory that was there nothing has turned.
-/
import Derived.Test.YtkkncipimbpkkaaSwb
import Derived.Test.YtkkncipimbpkkaaBref
import Derived.Below
import Derived.BigQuiet
import Derived.OwnWalk
import Derived.Laws.AppendOwn
import Derived.Laws.AppendOwnNone
import Derived.WalkKit
import Derived.WalkLawsBesides
import Derived.WalkSpells
import Derived.ProofKit
import Derived.OpenShut
import Derived.Deep.RegionHeld3
import Derived.Deep.LoopGhost
namespace Go.Proofs.Ytkkncipimbpkkaa
open Go.ChangeShapes Go.WideShapes Go.ChangeAt Go.RowKit Go.Shelf Go.Lib Go.Sort
set_option linter.unusedVariables false
set_option linter.unusedSimpArgs false


theorem with_any (sa : Option Addr) (n cap : Nat) (B : Nat → Bo) (y : Bo) (w : World) (hA : AnyB w sa n B) :
    Calls Try.prog 11 #[.slice sa n cap, .agg #[.float .f64 y.1, .float .f64 y.2.1, .float .f64 y.2.2.1, .float .f64 y.2.2.2]] w fun e w' => ∃ v, e = .returned (.tuple #[v, .int .i64 (mnE n)]) ∧ OwnR 1 w.heap.size w' v (wiL B n y).length (iRow (wiL B n y)) ∧ Bel w w' := by
  rcases Nat.lt_or_ge 16384 n with hn | hn
  · refine (with_many sa n cap y w hn).mono ?_
    rintro e w' ⟨rfl, hb⟩
    exact ⟨_, by rw [mnE, if_pos hn], by rw [wiL, if_pos hn]; exact OwnR.nil _ _ _, hb⟩
  · have e1 : wiL B n y = nums (fun i => meO (B i) y) n := by rw [wiL, if_neg (by omega)]
    have e2 : mnE n = 0 := by rw [mnE, if_neg (by omega)]
    rw [e1, e2]
    rcases hA with rfl | ⟨b, off, rfl, hB, hb⟩
    · exact with_0 sa cap _ y w
    · exact with_s b off n cap B y w hB hn
theorem ord_any (sa : Option Addr) (n cap : Nat) (B : Nat → Bo) (w : World) (hA : AnyB w sa n B) :
    Calls Try.prog 12 #[.slice sa n cap] w fun e w' => ∃ v O, e = .returned (.tuple #[v, .int .i64 (mnE n)]) ∧ OrdR B n O ∧ OwnR 1 w.heap.size w' v (O).length (iRow (O)) ∧ Below w.heap.size w w' ∧ (O = [] → Bel w w') := by
  rcases Nat.lt_or_ge 16384 n with hn | hn
  · refine (ord_many sa n cap w hn).mono ?_
    rintro e w' ⟨rfl, hb⟩
    exact ⟨_, [], by rw [mnE, if_pos hn], ⟨fun _ => rfl, fun h => by omega⟩, OwnR.nil _ _ _, hb.1, fun _ => hb⟩
  · have e2 : mnE n = 0 := by rw [mnE, if_neg (by omega)]
    rw [e2]
    rcases hA with rfl | ⟨b, off, rfl, hB, hb⟩
    · refine (ord_0 sa cap w).mono ?_
      rintro e w' ⟨rfl, hb⟩
      exact ⟨_, [], rfl, ⟨fun h => by omega, fun _ => ordL_none B⟩, OwnR.nil _ _ _, hb.1, fun _ => hb⟩
    · refine (ord_s b off n cap B w hB hn hb).mono ?_
      rintro e w' ⟨v, O, rfl, h1, h2, h3, h4⟩
      exact ⟨v, O, rfl, ⟨fun h => by omega, fun _ => h1⟩, h2, h3, h4⟩

set_option maxHeartbeats 4000000 in
theorem rMeet_s (a y : Bo) (w : World) : Calls Try.prog 37 #[.agg #[.float .f64 a.1, .float .f64 a.2.1, .float .f64 a.2.2.1, .float .f64 a.2.2.2], .agg #[.float .f64 y.1, .float .f64 y.2.1, .float .f64 y.2.2.1, .float .f64 y.2.2.2]] w fun e w' => e = .returned (.bool (meO a y)) ∧ Bel w w' := by
  obtain ⟨W1, hW1⟩ : ∃ W1, W1 = w.alloc (.cells #[.float .f64 a.1, .float .f64 a.2.1, .float .f64 a.2.2.1, .float .f64 a.2.2.2] 27) := ⟨_, rfl⟩
  have hka : Bk W1 w.heap.size a := by
    rw [hW1]
    exact ⟨by rw [World.cell?_alloc_new]; rfl, by rw [World.cell?_alloc_new]; rfl, by rw [World.cell?_alloc_new]; rfl, by rw [World.cell?_alloc_new]; rfl⟩
  have hs1 : W1.heap.size = w.heap.size + 1 := by rw [hW1]; exact World.size_alloc _ _
  have hky : Bk (W1.alloc (.cells #[.float .f64 y.1, .float .f64 y.2.1, .float .f64 y.2.2.1, .float .f64 y.2.2.2] 27)) (w.heap.size + 1) y := by
    rw [← hs1]
    exact ⟨by rw [World.cell?_alloc_new]; rfl, by rw [World.cell?_alloc_new]; rfl, by rw [World.cell?_alloc_new]; rfl, by rw [World.cell?_alloc_new]; rfl⟩
  replace hka := hka.bel (bl_alloc (bl_refl W1) #[.float .f64 y.1, .float .f64 y.2.1, .float .f64 y.2.2.1, .float .f64 y.2.2.2] 27)
  have B0 : Bel w (W1.alloc (.cells #[.float .f64 y.1, .float .f64 y.2.1, .float .f64 y.2.2.1, .float .f64 y.2.2.2] 27)) := by rw [hW1]; exact bl_alloc (bl_alloc (bl_refl _) _ _) _ _
  rw [hW1] at hka hky B0
  clear hW1 hs1
  obtain ⟨a0, a1, a2, a3⟩ := hka
  obtain ⟨y0, y1, y2, y3⟩ := hky
  have ca := chk_may a
  have cy := chk_may y
  have KP : ∀ {u u' : World} {q : Nat} {z : Bo}, Bel u u' → Bk u q z → Bk u' q z := fun h k => k.bel h
  go_enter Try.func37, Try.ntmps37
  unfold meO
  obtain ⟨ka, hka⟩ : ∃ k, chkN (bChk a.1 a.2.1 a.2.2.1 a.2.2.2) = k := ⟨_, rfl⟩
  obtain ⟨ky, hky⟩ : ∃ k, chkN (bChk y.1 y.2.1 y.2.2.1 y.2.2.2) = k := ⟨_, rfl⟩
  have kA : ∀ W, Calls Try.prog 36 #[.agg #[.float .f64 a.1, .float .f64 a.2.1, .float .f64 a.2.2.1, .float .f64 a.2.2.2]] W fun e w' => e = .returned (.int .i64 ka) ∧ Bel W w' := fun W => by rw [← hka]; exact rCheck_any _ _ _ _ W
  have kY : ∀ W, Calls Try.prog 36 #[.agg #[.float .f64 y.1, .float .f64 y.2.1, .float .f64 y.2.2.1, .float .f64 y.2.2.2]] W fun e w' => e = .returned (.int .i64 ky) ∧ Bel W w' := fun W => by rw [← hky]; exact rCheck_any _ _ _ _ W
  have kO : ∀ W, Calls Try.prog 49 #[.agg #[.float .f64 a.1, .float .f64 a.2.1, .float .f64 a.2.2.1, .float .f64 a.2.2.2], .agg #[.float .f64 y.1, .float .f64 y.2.1, .float .f64 y.2.2.1, .float .f64 y.2.2.2]] W fun e w' => e = .returned (.bool (ovO a y)) ∧ Bel W w' := fun W => rOver_any _ _ _ _ _ _ _ _ W
  rw [hka] at ca
  rw [hky] at cy
  clear hka hky
  generalize ovO a y = o at kO ⊢
  cases hm : mayO a with
  | false =>
    rw [hm] at ca
    go_wp2_with (first | (go_at_call 36; (with_reducible refine (kA _).mono ?_); rintro e w1 ⟨rfl, hb⟩))
    go_ret
    exact ⟨rfl, bl_trans B0 hb⟩
  | true =>
    rw [hm] at ca
    cases hy : mayO y with
    | false =>
      rw [hy] at cy
      go_wp2_with (first | (go_at_call 36; first | (have zn := mq; clear zn; (with_reducible refine (kY _).mono ?_); rintro e w2 ⟨rfl, hb2⟩) | ((with_reducible refine (kA _).mono ?_); rintro e w1 ⟨rfl, hb⟩; have mq := hide True.intro; replace y0 := keepB hb y0; replace y1 := keepB hb y1; replace y2 := keepB hb y2; replace y3 := keepB hb y3)))
      go_ret
      exact ⟨rfl, bl_trans (bl_trans B0 hb) hb2⟩
    | true =>
      rw [hy] at cy
      go_wp2_with (first | (go_at_call 36; first | (have zn := mq; clear zn; (with_reducible refine (kY _).mono ?_); rintro e w2 ⟨rfl, hb2⟩; replace y0 := keepB hb2 y0; replace y1 := keepB hb2 y1; replace y2 := keepB hb2 y2; replace y3 := keepB hb2 y3; replace a0 := keepB hb2 a0; replace a1 := keepB hb2 a1; replace a2 := keepB hb2 a2; replace a3 := keepB hb2 a3) | ((with_reducible refine (kA _).mono ?_); rintro e w1 ⟨rfl, hb⟩; have mq := hide True.intro; replace y0 := keepB hb y0; replace y1 := keepB hb y1; replace y2 := keepB hb y2; replace y3 := keepB hb y3; replace a0 := keepB hb a0; replace a1 := keepB hb a1; replace a2 := keepB hb a2; replace a3 := keepB hb a3)) | (go_at_call 49; (with_reducible refine (kO _).mono ?_); rintro e w3 ⟨rfl, hb3⟩))
      go_ret
      refine ⟨by first | rfl | simp, bl_trans (bl_trans (bl_trans B0 hb) hb2) hb3⟩

set_option maxHeartbeats 4000000 in
theorem rwith_any (sa : Option Addr) (n cap : Nat) (B : Nat → Bo) (y : Bo) (w : World) (hA : AnyB w sa n B) :
    Calls Try.prog 20 #[.slice sa n cap, .agg #[.float .f64 y.1, .float .f64 y.2.1, .float .f64 y.2.2.1, .float .f64 y.2.2.2]] w fun e w' => ∃ v, e = .returned (.tuple #[v, .int .i64 (mnE n)]) ∧ OwnR 1 w.heap.size w' v (wiL B n y).length (iRow (wiL B n y)) ∧ Bel w w' := by
  rcases Nat.lt_or_ge 16384 n with hn | hn
  · have hn1 : (16384 : Int) < (n : Int) := by omega
    rw [show wiL B n y = [] by rw [wiL, if_pos hn], show mnE n = 4 by rw [mnE, if_pos hn]]
    go_enter Try.func20, Try.ntmps20
    go_wp2
    refine bodyPost_ret (v := .tuple #[.slice none 0 0, .int .i64 4]) (by simp [results, Try.results20, go_sem]) rfl ?_
    exact ⟨_, rfl, OwnR.nil _ _ _, bl_alloc (bl_refl w) _ _⟩
  · have hn1 : ¬ (16384 : Int) < (n : Int) := by omega
    rw [show wiL B n y = nums (fun i => meO (B i) y) n by rw [wiL, if_neg (by omega)], show mnE n = 0 by rw [mnE, if_neg (by omega)]]
    have B0 := bl_alloc (bl_refl w) #[.float .f64 y.1, .float .f64 y.2.1, .float .f64 y.2.2.1, .float .f64 y.2.2.2] 27
    obtain ⟨W1, hW1⟩ : ∃ W1, W1 = w.alloc (.cells #[.float .f64 y.1, .float .f64 y.2.1, .float .f64 y.2.2.1, .float .f64 y.2.2.2] 27) := ⟨_, rfl⟩
    have hk : Bk W1 w.heap.size y := by
      rw [hW1]
      exact ⟨by rw [World.cell?_alloc_new]; rfl, by rw [World.cell?_alloc_new]; rfl, by rw [World.cell?_alloc_new]; rfl, by rw [World.cell?_alloc_new]; rfl⟩
    rw [hW1] at hk
    have hsz : (w.alloc (.cells #[.float .f64 y.1, .float .f64 y.2.1, .float .f64 y.2.2.1, .float .f64 y.2.2.2] 27)).heap.size = w.heap.size + 1 := World.size_alloc _ _
    obtain ⟨p, hp⟩ : ∃ p : Nat → Bool, p = fun i => meO (B i) y := ⟨_, rfl⟩
    rw [← hp]
    have hpi : ∀ i, meO (B i) y = p i := fun i => by rw [hp]
    clear hp hW1
    go_enter Try.func20, Try.ntmps20
    go_wp2
    go_loopg [6, 7] n (fun kx s6 s7 wr => ∃ k : Nat, s7 = .int .i64 k ∧ k ≤ n ∧ n - k ≤ kx ∧ OwnR 1 (w.heap.size + 1) wr s6 (nums p k).length (iRow (nums p k)) ∧ Bel (w.alloc (.cells #[.float .f64 y.1, .float .f64 y.2.1, .float .f64 y.2.2.1, .float .f64 y.2.2.2] 27)) wr)
    case atStart => exact ⟨0, rfl, by omega, by omega, OwnR.nil _ _ _, bl_refl _⟩
    case round =>
      obtain ⟨k, rfl, hkn, hkx, hO, hW⟩ := hrel
      by_cases hlt : k < n
      · have hltz : (k : Int) < (n : Int) := by omega
        have hwk : IntKind.wrap .i64 ((k : Int) + 1) = (k : Int) + 1 := by rw [IntKind.wrap_i64]; omega
        obtain ⟨b, off, hsa, hB, hb0⟩ : ∃ b off, sa = some ⟨b, off, none⟩ ∧ Bs w b off n B ∧ b < w.heap.size := by
          rcases hA with h0 | h0
          · omega
          · exact h0
        clear hA
        subst hsa
        obtain ⟨x0, x1, x2, x3⟩ := ((hB.bel B0).bel hW) k hlt
        obtain ⟨z0, z1, z2, z3⟩ := hk.bel hW
        have nl := nums_len p k
        have hsw := hW.size
        rw [hsz] at hsw
        haveI := belBy_some wr
        have y0 := belBy_cell x0
        have y1 := belBy_cell x1
        have y2 := belBy_cell x2
        have y3 := belBy_cell x3
        have v0 := belBy_cell z0
        have v1 := belBy_cell z1
        have v2 := belBy_cell z2
        have v3 := belBy_cell z3
        obtain ⟨o, ho⟩ : ∃ o, p k = o := ⟨_, rfl⟩
        have hov : ∀ W, Calls Try.prog 37 #[.agg #[.float .f64 (B k).1, .float .f64 (B k).2.1, .float .f64 (B k).2.2.1, .float .f64 (B k).2.2.2], .agg #[.float .f64 y.1, .float .f64 y.2.1, .float .f64 y.2.2.1, .float .f64 y.2.2.2]] W fun e w' => e = .returned (.bool o) ∧ Bel W w' := fun W => by rw [← ho, ← hpi]; exact rMeet_s _ _ W
        have HO : Hid (p k = o) := ho
        clear ho
        go_wp2
        refine wp_region_quiet_bel (by kernel_rfl) (by kernel_rfl) ?_
        repeat (go_big_quiet_step (first | (go_at_call 37; exact calls_bel (hov _))))
        refine wpQuiet_nil ?_
        rintro _ ⟨nq, rfl⟩
        have hb2 := nq.h
        clear y0 y1 y2 y3 v0 v1 v2 v3 this
        obtain ⟨w2, hw2⟩ : ∃ w2, w2 = nq.world := ⟨_, rfl⟩
        rw [← hw2] at hb2
        rw [← hw2]
        clear hw2 nq
        have hO2 := hO.bel hb2
        have hW2 := bl_trans hW hb2
        have hsw2 := hb2.size
        cases o with
        | true =>
          have hO' := hO2.bel (bl_alloc (bl_refl w2) #[.int .i64 (k : Int)] 3)
          go_wp2_with (first | (at_builtin; refine wpList_appR (P := Try.prog) (sz := 1) (by_ := 8) (R := iRow (nums p k)) (N := [.int .i64 (k : Int)]) 33 3 rfl _ _ rfl Try.underlying33 info_int rfl rfl _ 0 1 1 rfl hO' rfl (mk_rw _ [.int .i64 (k : Int)] 3) (by intro u hu; simp only [List.mem_cons, List.not_mem_nil, or_false] at hu; subst hu; rfl) (by decide) (by simp only [World.size_alloc]; omega) (by unfold maxLen; omega) (by omega) ?_; intro v2 wx hO4 hv2 hbX; have B3 := hbX (w.alloc (.cells #[.float .f64 y.1, .float .f64 y.2.1, .float .f64 y.2.2.1, .float .f64 y.2.2.2] 27)) (bl_alloc hW2 _ _) (by rw [hsz]; exact Nat.le_refl _)))
          go_roundg (n - (k + 1))
          case measure => omega
          case rel => exact ⟨k + 1, by go_num, by omega, Nat.le_refl _, by rw [nums_yes HO.out, List.length_append, iRow_app]; exact hO4, B3⟩
        | false =>
          go_wp2
          go_roundg (n - (k + 1))
          case measure => omega
          case rel => exact ⟨k + 1, by go_num, by omega, Nat.le_refl _, by rw [nums_no HO.out]; exact hO2, hW2⟩
      · have hltz : ¬ (k : Int) < (n : Int) := by omega
        have hkn : k = n := by omega
        subst hkn
        go_wp2
        refine bodyPost_ret (v := .tuple #[u6, .int .i64 0]) (by simp [results, Try.results20, go_sem]) rfl ?_
        exact ⟨_, rfl, hO.base (by omega), bl_trans B0 hW⟩

end Go.Proofs.Ytkkncipimbpkkaa
