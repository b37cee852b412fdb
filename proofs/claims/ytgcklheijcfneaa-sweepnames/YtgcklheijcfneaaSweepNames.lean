/-
  'tumblelaw13.SweepNames' is true of all rows of boxes.
-/
import Derived.Test.YtgcklheijcfneaaRows
import Derived.Test.YtgcklheijcfneaaSwam
import Derived.Test.YtgcklheijcfneaaSwnm
import Derived.Test.YtgcklheijcfneaaSwg
import Derived.Test.YtgcklheijcfneaaOnc5
import Derived.Test.YtgcklheijcfneaaApps
import Derived.WalkKit
import Derived.ProofKit
import Derived.OpenShut
import Derived.WalkLawsBesides
import Derived.WalkSpells
import Derived.Lib.SmallJoins
import Derived.Laws.Cover2
import Derived.Laws.AppendOwn
import Derived.Laws.OwnMore
import Derived.Laws.AppendOwnNone
import Derived.Deep.RegionHeld3
import Derived.Deep.RegionWith
import Derived.Deep.SlicePairs
import Derived.Deep.Strs
import Derived.SizedLaws
import Derived.Below
import Derived.Deep.DeepCutAuto
import Derived.Laws.StructEq
namespace Go.Proofs.Ytgcklheijcfneaa.sweepNames
open Go.ChangeShapes Go.WideShapes Go.ChangeAt Go.RowKit Go.Joins Go.Sort
set_option linter.unusedVariables false
set_option linter.unusedSimpArgs false

theorem own : ownKnob Try.prog.godebug = none := by kernel_rfl
theorem laidOut : laidOutB Try.prog = true := by kernel_rfl
theorem wf_f64 {x : Nat} (h : (Lit.float .f64 x).wf = true) : okK .f64 x := by
  rw [okK64]; simpa [Lit.wf] using h
theorem trod_fl {H : Type} {enc : TypeId × Value → H} {P : Program} {w : World} {base fuel : Nat} {spare : Nat → Bool} {held : Bool} {t : TypeId} {cs : List Value} {x : DataW H × List MemPlace} {k : FloatKind} (ht : P.underlying t = some (.float k)) (h : DataW.trod enc P w base spare held fuel t cs = some x) : ∃ z, cs = [.float k z] ∧ x = (.lit (.float k z), []) ∧ (Lit.float k z).wf = true := by
  cases fuel with
  | zero => simp [DataW.trod] at h
  | succ n =>
    unfold DataW.trod at h
    rw [ht] at h
    split at h <;> simp_all

theorem cellsV : Try.prog.cellsOf 25 = 2 := by kernel_rfl
theorem cellsM : Try.prog.cellsOf 27 = 4 := by kernel_rfl
theorem cellsF : Try.prog.cellsOf 23 = 1 := by kernel_rfl

theorem bRow_snoc (B : Nat → Bo) (n : Nat) : bRow B (n + 1) = bRow B n ++ [.float .f64 (B n).1, .float .f64 (B n).2.1, .float .f64 (B n).2.2.1, .float .f64 (B n).2.2.2] := by
  have e : List.range ((n + 1) * 4) = List.range (n * 4) ++ [n * 4, n * 4 + 1, n * 4 + 2, n * 4 + 3] := by
    rw [show (n + 1) * 4 = n * 4 + 1 + 1 + 1 + 1 by omega, List.range_succ, List.range_succ, List.range_succ, List.range_succ]
    simp
  unfold bRow
  rw [e, List.map_append]
  congr 1
  simp only [List.map_cons, List.map_nil]
  rw [show n * 4 / 4 = n by omega, show (n * 4 + 1) / 4 = n by omega, show (n * 4 + 2) / 4 = n by omega, show (n * 4 + 3) / 4 = n by omega, show n * 4 % 4 = 0 by omega, show (n * 4 + 1) % 4 = 1 by omega, show (n * 4 + 2) % 4 = 2 by omega, show (n * 4 + 3) % 4 = 3 by omega]
  rfl
theorem own_many {base n : Nat} {w : World} {v : Value} {B : Nat → Bo} (h : OwnR 4 base w v n (bRow B n)) (h0 : 0 < n) : ∃ g c, v = .slice (some ⟨g, 0, none⟩) n c ∧ Bs w g 0 n B ∧ g < w.heap.size ∧ n ≤ c := by
  rcases own_split h (by decide) with ⟨rfl, _⟩ | ⟨_, g, cap, rfl, _, hg, hc⟩
  · omega
  · refine ⟨g, cap, rfl, rw_bs ?_, hg, hc⟩
    rcases h.2 with ⟨e, rfl⟩ | ⟨g', cap', e, _, _, _, h4, _⟩
    · cases e
    · cases e; exact h4
theorem any_pre {w : World} {g n m : Nat} {B : Nat → Bo} (h : Bs w g 0 n B) (hg : g < w.heap.size) (hm : m ≤ n) : AnyB w (some ⟨g, 0, none⟩) m B := .inr ⟨g, 0, rfl, fun i hi => h i (by omega), hg⟩
theorem any_less {w : World} {sa : Option Addr} {n m : Nat} {B : Nat → Bo} (h : AnyB w sa n B) (h0 : 0 < n) (hm : m ≤ n) : AnyB w sa m B := by
  rcases h with h | ⟨b, off, e, h, hb⟩
  · omega
  · exact .inr ⟨b, off, e, fun i hi => h i (by omega), hb⟩
theorem huge_E (B C : Nat → Bo) : prE (max 3 16385) (refB B C 3 16385) = 4 := by unfold prE; rw [if_pos (by decide)]
theorem any_first {w : World} {g n : Nat} {B : Nat → Bo} (h : AnyB w (some ⟨g, 0, none⟩) n B) (h0 : 0 < n) : w.cell? ⟨g, 0, none⟩ = some (.float .f64 (B 0).1) ∧ w.cell? ⟨g, 1, none⟩ = some (.float .f64 (B 0).2.1) ∧ w.cell? ⟨g, 2, none⟩ = some (.float .f64 (B 0).2.2.1) ∧ w.cell? ⟨g, 3, none⟩ = some (.float .f64 (B 0).2.2.2) := by
  rcases h with h | ⟨b, off, e, h, hb⟩
  · omega
  · cases e
    simpa using h 0 h0
theorem with_4 (sa : Option Addr) (c : Nat) (B : Nat → Bo) (y : Bo) (w : World) (h : AnyB w sa 16385 B) : Calls Try.prog 10 #[.slice sa 16385 c, .agg #[.float .f64 y.1, .float .f64 y.2.1, .float .f64 y.2.2.1, .float .f64 y.2.2.2]] w fun e w' => ∃ v, e = .returned (.tuple #[v, .int .i64 4]) ∧ Below w.heap.size w w' := by
  refine (with_any sa 16385 c B y w h).mono ?_
  rintro e w' ⟨v, rfl, _, h3⟩
  exact ⟨v, rfl, h3.1⟩
theorem ord_4 (sa : Option Addr) (c : Nat) (B : Nat → Bo) (w : World) (h : AnyB w sa 16385 B) : Calls Try.prog 11 #[.slice sa 16385 c] w fun e w' => ∃ v, e = .returned (.tuple #[v, .int .i64 4]) ∧ Below w.heap.size w w' := by
  refine (ord_any sa 16385 c B w h).mono ?_
  rintro e w' ⟨v, O, rfl, _, _, h3, _⟩
  exact ⟨v, rfl, h3⟩
theorem bet_huge (sa : Option Addr) (c : Nat) (B : Nat → Bo) (w : World) (h : AnyB w sa 16385 B) : Calls Try.prog 12 #[.slice sa 3 c, .slice sa 16385 c] w fun e w' => ∃ v, e = .returned (.tuple #[v, .int .i64 4]) ∧ Below w.heap.size w w' := by
  refine (bet_any sa sa 3 c 16385 c B B w (any_less h (by decide) (by decide)) h).mono ?_
  rw [huge_E]
  rintro e w' ⟨v, rfl, h1, _, h3⟩
  exact ⟨v, rfl, h3⟩
theorem pairs_apart (g c : Nat) (w : World) (h : AnyB w (some ⟨g, 0, none⟩) 16384 bApart) : Calls Try.prog 9 #[.slice (some ⟨g, 0, none⟩) 16384 c] w fun e w' => ∃ v, e = .returned (.tuple #[v, .int .i64 0]) ∧ PRow w' v [] ∧ Below w.heap.size w w' := by
  refine (pairs_any _ 16384 c bApart w h).mono ?_
  have e1 := apart_none (n := 16384) (Nat.le_refl _)
  rw [e1]
  rintro e w' ⟨v, rfl, h1, _, h3⟩
  exact ⟨v, rfl, own_prow h1, h3⟩
theorem pairs_4 (sa : Option Addr) (n c : Nat) (B : Nat → Bo) (w : World) (h : AnyB w sa n B) (h4 : prE n (refP B n) = 4) : Calls Try.prog 9 #[.slice sa n c] w fun e w' => ∃ v, e = .returned (.tuple #[v, .int .i64 4]) ∧ Below w.heap.size w w' := by
  refine (pairs_any _ n c B w h).mono ?_
  rw [h4]
  rintro e w' ⟨v, rfl, h1, _, h3⟩
  exact ⟨v, rfl, h3⟩
theorem pairs_0 (sa : Option Addr) (n c : Nat) (B : Nat → Bo) (L : List (Nat × Nat)) (w : World) (h : AnyB w sa n B) (h4 : prE n (refP B n) = 0) (hL : prL n (refP B n) = L) : Calls Try.prog 9 #[.slice sa n c] w fun e w' => ∃ v, e = .returned (.tuple #[v, .int .i64 0]) ∧ PRow w' v L ∧ Below w.heap.size w w' := by
  refine (pairs_any _ n c B w h).mono ?_
  rw [h4, hL]
  rintro e w' ⟨v, rfl, h1, _, h3⟩
  exact ⟨v, rfl, own_prow h1, h3⟩
theorem few_E : prE 362 (refP bLike 362) = 0 := by unfold prE; rw [if_neg (by decide), if_neg (by rw [like_362]; decide)]
theorem few_L : prL 362 (refP bLike 362) = refP bLike 362 := by unfold prL; rw [if_neg (by decide), if_neg (by rw [like_362]; decide)]
theorem many_E : prE 363 (refP bLike 363) = 4 := by unfold prE; rw [if_neg (by decide), if_pos (by rw [like_363]; decide)]
theorem full_E : prE (max 256 256) (refB bLike bLike 256 256) = 0 := by unfold prE; rw [if_neg (by decide), if_neg (by rw [like_256]; decide)]
theorem full_L : prL (max 256 256) (refB bLike bLike 256 256) = refB bLike bLike 256 256 := by unfold prL; rw [if_neg (by decide), if_neg (by rw [like_256]; decide)]
theorem over_E : prE (max 256 257) (refB bLike bLike 256 257) = 4 := by unfold prE; rw [if_neg (by decide), if_pos (by rw [like_257]; decide)]
theorem over_L : prL (max 256 257) (refB bLike bLike 256 257) = [] := by unfold prL; rw [if_neg (by decide), if_pos (by rw [like_257]; decide)]
theorem bet0 (L : List (Nat × Nat)) (hL : prL (max 256 256) (refB bLike bLike 256 256) = L) (gs cs : Nat) (W : World) (h : AnyB W (some ⟨gs, 0, none⟩) 363 bLike) : Calls Try.prog 12 #[.slice (some ⟨gs, 0, none⟩) 256 cs, .slice (some ⟨gs, 0, none⟩) 256 cs] W fun e w' => ∃ v, e = .returned (.tuple #[v, .int .i64 0]) ∧ PRow w' v L ∧ NB W w' := by
  refine (bet_any _ _ 256 cs 256 cs bLike bLike W (any_less h (by decide) (by decide)) (any_less h (by decide) (by decide))).mono ?_
  rw [full_E, hL]
  rintro e w' ⟨v, rfl, h1, _, h3⟩
  exact ⟨v, rfl, own_prow h1, h3⟩
theorem bet4 (gs cs : Nat) (W : World) (h : AnyB W (some ⟨gs, 0, none⟩) 363 bLike) : Calls Try.prog 12 #[.slice (some ⟨gs, 0, none⟩) 256 cs, .slice (some ⟨gs, 0, none⟩) 257 cs] W fun e w' => ∃ v, e = .returned (.tuple #[v, .int .i64 4]) ∧ PRow w' v [] ∧ NB W w' := by
  refine (bet_any _ _ 256 cs 257 cs bLike bLike W (any_less h (by decide) (by decide)) (any_less h (by decide) (by decide))).mono ?_
  rw [over_E, over_L]
  rintro e w' ⟨v, rfl, h1, _, h3⟩
  exact ⟨v, rfl, own_prow h1, h3⟩
set_option maxRecDepth 100000 in
set_option maxHeartbeats 32000000 in
theorem walk_any (w : World) : Calls Try.prog 3 #[] w fun e w' => e = .returned (.bool true) ∧ Below w.heap.size w w' := by
  obtain ⟨FL, hFL⟩ : ∃ L, refP bLike 362 = L := ⟨_, rfl⟩
  obtain ⟨GL, hGL⟩ : ∃ L, refB bLike bLike 256 256 = L := ⟨_, rfl⟩
  have hLF : FL.length = 65341 := by rw [← hFL]; exact like_362
  have hLG : GL.length = 65536 := by rw [← hGL]; exact like_256
  have HFL : Hid (refP bLike 362 = FL) := hFL
  have HGL : Hid (refB bLike bLike 256 256 = GL) := hGL
  have HLF : Hid (FL.length = 65341) := hLF
  have HLG : Hid (GL.length = 65536) := hLG
  clear hFL hGL hLF hLG
  have cv : ∀ k : Nat, FloatKind.f64.nearest (k : Int) = fI k := fun _ => rfl
  go_enter Try.func3, Try.ntmps3
  go_wp2
  go_loopg [1, 2] 16385 (fun kx s1 s2 wr => ∃ k : Nat, s2 = .int .i64 k ∧ k ≤ 16385 ∧ 16385 - k ≤ kx ∧ OwnR 4 w.heap.size wr s1 k (bRow bApart k) ∧ Bel w wr)
  case atStart => exact ⟨0, rfl, by omega, by omega, OwnR.nil _ _ _, bl_refl _⟩
  case round =>
    obtain ⟨k, rfl, hkn, hkx, hO, hW⟩ := hrel
    by_cases hlt : k < 16385
    · have hltz : (k : Int) < 16385 := by omega
      have hwk : IntKind.wrap .i64 ((k : Int) + 1) = (k : Int) + 1 := by rw [IntKind.wrap_i64]; omega
      obtain ⟨p, hp⟩ : ∃ p, p = 2 * k := ⟨_, rfl⟩
      obtain ⟨q, hq⟩ : ∃ q, q = 2 * k + 1 := ⟨_, rfl⟩
      have hw2 : IntKind.wrap .i64 (2 * (k : Int)) = (p : Int) := by rw [IntKind.wrap_i64]; omega
      have hw3 : IntKind.wrap .i64 ((p : Int) + 1) = (q : Int) := by rw [IntKind.wrap_i64]; omega
      have hBk : bApart k = (fI p, 0, fI q, 4607182418800017408) := by rw [hp, hq]; rfl
      have HBK : Hid (bApart k = (fI p, 0, fI q, 4607182418800017408)) := hBk
      clear hp hq hBk
      have hsz := hW.size
      have one : ∀ u ∈ ([.float .f64 (fI p), .float .f64 0, .float .f64 (fI q), .float .f64 4607182418800017408] : List Value), u.oneCell' = true := by
              intro u hu
              simp only [List.mem_cons, List.not_mem_nil, or_false] at hu
              rcases hu with rfl | rfl | rfl | rfl <;> rfl
      go_wp2_with (first | (go_at_call 8; (with_reducible refine (b13_s _ _ _ _ _).mono ?_); rintro e w8 ⟨rfl, hb8⟩; have hs8 := hb8.size; have hO' := (hO.bel hb8).bel (bl_alloc (bl_refl w8) #[.float .f64 (fI p), .float .f64 0, .float .f64 (fI q), .float .f64 4607182418800017408] 27)) | (at_builtin; refine wpList_appR (P := Try.prog) (sz := 4) (by_ := 32) (R := bRow bApart k) (N := [.float .f64 (fI p), .float .f64 0, .float .f64 (fI q), .float .f64 4607182418800017408]) 22 27 rfl _ _ rfl Try.underlying22 info_box rfl rfl _ 0 1 1 rfl hO' rfl (mk_rw w8 [.float .f64 (fI p), .float .f64 0, .float .f64 (fI q), .float .f64 4607182418800017408] 27) one (by decide) (by simp only [World.size_alloc]; omega) (by unfold maxLen; omega) (by omega) ?_; intro v2 w9 hO2 hv2 hb2; have B2 := hb2 w (bl_alloc (bl_trans hW hb8) _ _) (Nat.le_refl _)))
      go_roundg (16385 - (k + 1))
      case measure => omega
      case rel => exact ⟨k + 1, by go_num, by omega, Nat.le_refl _, by rw [bRow_snoc, HBK.out]; exact hO2, B2⟩
    · have hltz : ¬ (k : Int) < 16385 := by omega
      have hk : k = 16385 := by omega
      subst hk
      obtain ⟨w1, hw1⟩ : ∃ X, X = wr := ⟨_, rfl⟩
      subst hw1
      obtain ⟨g, c, hv, hBs, hg, hgc⟩ := own_many hO (by decide)
      subst hv
      have hcm : c ≤ maxLen := by
        rcases hO.2 with ⟨e, _⟩ | ⟨g', cap', e, _, _, h3, _⟩
        · cases e
        · cases e; exact h3
      have hcmx : c ≤ 9223372036854775807 := Nat.le_trans hcm (by unfold maxLen; decide)
      have hA1 := any_pre hBs hg (Nat.le_refl 16385)
      have L1 := hW.1
      obtain ⟨x0, x1, x2, x3⟩ := hBs 0 (by decide)
      have hcz : (16384 : Int) ≤ (c : Int) := by omega
      have hcz3 : (3 : Int) ≤ (c : Int) := by omega
      clear hkn hkx hlt hO hW
      go_wp2_with (first | (go_at_call 9; first | ((with_reducible refine (pairs_apart g c w1 (any_less hA1 (by decide) (by decide))).mono ?_); rintro e w2 ⟨vp, rfl, hp, hb2⟩; have L2 := bw_trans L1 hb2; have hA2 := hA1.below hb2) | ((with_reducible refine (pairs_4 _ 16385 c bApart w2 hA2 (by unfold prE; rw [if_pos (by decide)])).mono ?_); rintro e w3 ⟨v3, rfl, hb3⟩; have L3 := bw_trans L2 hb3; have hA3 := hA2.below hb3; replace hp := hp.below hb3; obtain ⟨y0, y1, y2, y3⟩ := any_first hA3 (by decide))) | (go_at_call 10; (with_reducible refine (with_4 _ c bApart (bApart 0) w3 hA3).mono ?_); rintro e w4 ⟨v4, rfl, hb4⟩; have L4 := bw_trans L3 hb4; have hA4 := hA3.below hb4; replace hp := hp.below hb4) | (go_at_call 11; (with_reducible refine (ord_4 _ c bApart w4 hA4).mono ?_); rintro e w5 ⟨v5, rfl, hb5⟩; have L5 := bw_trans L4 hb5; have hA5 := hA4.below hb5; replace hp := hp.below hb5) | (go_at_call 12; (with_reducible refine (bet_huge _ c bApart w5 hA5).mono ?_); rintro e w6 ⟨v6, rfl, hb6⟩; have L6 := bw_trans L5 hb6; replace hp := hp.below hb6))
      clear hA1 hA2 hA3 hA4 hA5 L1 L2 L3 L4 L5 hb2 hb3 hb4 hb5 hb6 x0 x1 x2 x3 y0 y1 y2 y3 hBs hg
      go_loopg [13, 14] 363 (fun kx s1 s2 wr => ∃ k : Nat, s2 = .int .i64 k ∧ k ≤ 363 ∧ 363 - k ≤ kx ∧ OwnR 4 w6.heap.size wr s1 k (bRow bLike k) ∧ Bel w6 wr)
      case atStart => exact ⟨0, rfl, by omega, by omega, OwnR.nil _ _ _, bl_refl _⟩
      case round =>
        obtain ⟨k, rfl, hkn, hkx, hO, hW⟩ := hrel
        by_cases hlt : k < 363
        · have hltz : (k : Int) < 363 := by omega
          have hwk : IntKind.wrap .i64 ((k : Int) + 1) = (k : Int) + 1 := by rw [IntKind.wrap_i64]; omega
          have hsz := hW.size
          have one : ∀ u ∈ ([.float .f64 0, .float .f64 0, .float .f64 4611686018427387904, .float .f64 4611686018427387904] : List Value), u.oneCell' = true := by
              intro u hu
              simp only [List.mem_cons, List.not_mem_nil, or_false] at hu
              rcases hu with rfl | rfl | rfl | rfl <;> rfl
          go_wp2_with (first | (go_at_call 8; (with_reducible refine (b13_s _ _ _ _ _).mono ?_); rintro e w8 ⟨rfl, hb8⟩; have hs8 := hb8.size; have hO' := (hO.bel hb8).bel (bl_alloc (bl_refl w8) #[.float .f64 0, .float .f64 0, .float .f64 4611686018427387904, .float .f64 4611686018427387904] 27)) | (at_builtin; refine wpList_appR (P := Try.prog) (sz := 4) (by_ := 32) (R := bRow bLike k) (N := [.float .f64 0, .float .f64 0, .float .f64 4611686018427387904, .float .f64 4611686018427387904]) 22 27 rfl _ _ rfl Try.underlying22 info_box rfl rfl _ 0 1 1 rfl hO' rfl (mk_rw w8 [.float .f64 0, .float .f64 0, .float .f64 4611686018427387904, .float .f64 4611686018427387904] 27) one (by decide) (by simp only [World.size_alloc]; omega) (by unfold maxLen; omega) (by omega) ?_; intro v2 w9 hO2 hv2 hb2; have B2 := hb2 w6 (bl_alloc (bl_trans hW hb8) _ _) (Nat.le_refl _)))
          go_roundg (363 - (k + 1))
          case measure => omega
          case rel => exact ⟨k + 1, by go_num, by omega, Nat.le_refl _, by rw [bRow_snoc]; exact hO2, B2⟩
        · have hltz : ¬ (k : Int) < 363 := by omega
          have hk : k = 363 := by omega
          subst hk
          obtain ⟨w10, hw10⟩ : ∃ X, X = wr := ⟨_, rfl⟩
          subst hw10
          obtain ⟨gs, cs, hv, hBs, hg, hgc⟩ := own_many hO (by decide)
          subst hv
          have hcm : cs ≤ maxLen := by
            rcases hO.2 with ⟨e, _⟩ | ⟨g', cap', e, _, _, h3, _⟩
            · cases e
            · cases e; exact h3
          have hcmx : cs ≤ 9223372036854775807 := Nat.le_trans hcm (by unfold maxLen; decide)
          have hA10 := any_pre hBs hg (Nat.le_refl 363)
          have L10 := bw_trans L6 hW.1
          replace hp := hp.below hW.1
          have hcz : (362 : Int) ≤ (cs : Int) := by omega
          have hcz1 : (256 : Int) ≤ (cs : Int) := by omega
          have hcz2 : (257 : Int) ≤ (cs : Int) := by omega
          clear hkn hkx hlt hO hW hBs hg
          have k1 := fun W (h : AnyB W (some ⟨gs, 0, none⟩) 363 bLike) => pairs_0 (some ⟨gs, 0, none⟩) 362 cs bLike FL W (any_less h (by decide) (by decide)) few_E (by rw [few_L]; exact HFL.out)
          have k2 := fun W (h : AnyB W (some ⟨gs, 0, none⟩) 363 bLike) => pairs_4 (some ⟨gs, 0, none⟩) 363 cs bLike W h many_E
          go_upto_region 18 with (first | (go_at_call 9; first | ((with_reducible refine (k1 w10 hA10).mono ?_); rintro e w11 ⟨vf, rfl, hfew, hb11⟩; have L11 := bw_trans L10 hb11; have hA11 := hA10.below hb11; replace hp := hp.below hb11) | ((with_reducible refine (k2 w11 hA11).mono ?_); rintro e w12 ⟨v12, rfl, hb12⟩; have L12 := bw_trans L11 hb12; have hAs12 := hA11.below hb12; replace hp := hp.below hb12; replace hfew := hfew.below hb12)))
          clear k1 k2 hA10 hA11 hb11 hb12 L10 L11
          have hBe : ∀ W, NB w12 W → Calls Try.prog 12 #[.slice (some ⟨gs, 0, none⟩) 256 cs, .slice (some ⟨gs, 0, none⟩) 256 cs] W fun e w' => ∃ v, e = .returned (.tuple #[v, .int .i64 0]) ∧ PRow w' v GL ∧ NB W w' := fun W hb => bet0 GL (by rw [full_L]; exact HGL.out) gs cs W (hAs12.below hb)
          go_wp2
          refine wp_region_monoN 10 rfl (fun i W v => match i with | 0 => v = .slice (some ⟨gs, 0, none⟩) 363 cs | 1 => v = .slice (some ⟨gs, 0, none⟩) 256 cs | 2 => v = .slice (some ⟨gs, 0, none⟩) 363 cs | 3 => v = .slice (some ⟨gs, 0, none⟩) 256 cs | 4 => ∃ x, v = .tuple #[x, .int .i64 0] ∧ PRow W x GL | 5 => ∃ x, v = .tuple #[x, .int .i64 0] ∧ PRow W x GL | 6 => ∃ x, v = x ∧ PRow W x GL | 7 => v = .int .i64 0 | 8 => ∃ x, v = x ∧ PRow W x GL | 9 => v = .int .i64 0 | _ => False) NB nb_drew (fun _ _ _ => nb_trans) ?A_wu (by kernel_rfl) (by kernel_rfl) ?hA_wu ?hmo_wu ?hq_wu ?ht_wu
          case hA_wu =>
            intro s
            simp only [putL, dstO, Act.put, List.getElem?_toArray, List.getElem?_cons_zero, List.getElem?_cons_succ, Option.bind_some, List.setIfInBounds_toArray, List.set_cons_zero, List.set_cons_succ, if_true]
            all_goals exact rfl
          case hmo_wu =>
            intro i W W' v hi _ hb h
            rcases (show i = 0 ∨ i = 1 ∨ i = 2 ∨ i = 3 ∨ i = 4 ∨ i = 5 ∨ i = 6 ∨ i = 7 ∨ i = 8 ∨ i = 9 by omega) with rfl | rfl | rfl | rfl | rfl | rfl | rfl | rfl | rfl | rfl
            all_goals first | exact h | (obtain ⟨x, e, o⟩ := h; exact ⟨x, e, PRow.below o hb⟩)
          case hq_wu =>
            intro i o hi ho s W hs hb K hK
            rcases (show i = 0 ∨ i = 1 ∨ i = 2 ∨ i = 3 ∨ i = 4 ∨ i = 5 ∨ i = 6 ∨ i = 7 ∨ i = 8 ∨ i = 9 by omega) with rfl | rfl | rfl | rfl | rfl | rfl | rfl | rfl | rfl | rfl
            · cases ho
              simp only [Act.put, List.setIfInBounds_toArray, List.set_cons_zero, List.set_cons_succ] at hK
              clear hs
              go_simp
              all_goals (try go_wp2_with (first | (go_at_call 12; (with_reducible refine (hBe _ hb).mono ?_); rintro e w' ⟨V8, rfl, hG8, hb8⟩)))
              all_goals first | (with_reducible exact hK.out _ _ ⟨_, rfl, hG8⟩ hb8) | (with_reducible exact hK.out _ _ ⟨_, rfl, o4⟩ nb_refl) | (with_reducible exact hK.out _ _ ⟨_, rfl, o5⟩ nb_refl) | (with_reducible exact hK.out _ _ ⟨_, rfl, o6⟩ nb_refl) | with_reducible exact hK.out _ _ rfl nb_refl | exact hK.out _ _ rfl (by assumption) | exact hK.out _ _ (by assumption) (by assumption)
            · cases ho
              have e0 : s 0 = _ := hs 0 (by decide) (by kernel_rfl)
              simp only [e0] at hK ⊢
              simp only [Act.put, List.setIfInBounds_toArray, List.set_cons_zero, List.set_cons_succ] at hK
              clear hs
              go_simp
              all_goals (try go_wp2_with (first | (go_at_call 12; (with_reducible refine (hBe _ hb).mono ?_); rintro e w' ⟨V8, rfl, hG8, hb8⟩)))
              all_goals first | (with_reducible exact hK.out _ _ ⟨_, rfl, hG8⟩ hb8) | (with_reducible exact hK.out _ _ ⟨_, rfl, o4⟩ nb_refl) | (with_reducible exact hK.out _ _ ⟨_, rfl, o5⟩ nb_refl) | (with_reducible exact hK.out _ _ ⟨_, rfl, o6⟩ nb_refl) | with_reducible exact hK.out _ _ rfl nb_refl | exact hK.out _ _ rfl (by assumption) | exact hK.out _ _ (by assumption) (by assumption)
            · cases ho
              simp only [Act.put, List.setIfInBounds_toArray, List.set_cons_zero, List.set_cons_succ] at hK
              clear hs
              go_simp
              all_goals (try go_wp2_with (first | (go_at_call 12; (with_reducible refine (hBe _ hb).mono ?_); rintro e w' ⟨V8, rfl, hG8, hb8⟩)))
              all_goals first | (with_reducible exact hK.out _ _ ⟨_, rfl, hG8⟩ hb8) | (with_reducible exact hK.out _ _ ⟨_, rfl, o4⟩ nb_refl) | (with_reducible exact hK.out _ _ ⟨_, rfl, o5⟩ nb_refl) | (with_reducible exact hK.out _ _ ⟨_, rfl, o6⟩ nb_refl) | with_reducible exact hK.out _ _ rfl nb_refl | exact hK.out _ _ rfl (by assumption) | exact hK.out _ _ (by assumption) (by assumption)
            · cases ho
              have e2 : s 2 = _ := hs 2 (by decide) (by kernel_rfl)
              simp only [e2] at hK ⊢
              simp only [Act.put, List.setIfInBounds_toArray, List.set_cons_zero, List.set_cons_succ] at hK
              clear hs
              go_simp
              all_goals (try go_wp2_with (first | (go_at_call 12; (with_reducible refine (hBe _ hb).mono ?_); rintro e w' ⟨V8, rfl, hG8, hb8⟩)))
              all_goals first | (with_reducible exact hK.out _ _ ⟨_, rfl, hG8⟩ hb8) | (with_reducible exact hK.out _ _ ⟨_, rfl, o4⟩ nb_refl) | (with_reducible exact hK.out _ _ ⟨_, rfl, o5⟩ nb_refl) | (with_reducible exact hK.out _ _ ⟨_, rfl, o6⟩ nb_refl) | with_reducible exact hK.out _ _ rfl nb_refl | exact hK.out _ _ rfl (by assumption) | exact hK.out _ _ (by assumption) (by assumption)
            · cases ho
              have e1 : s 1 = _ := hs 1 (by decide) (by kernel_rfl)
              have e3 : s 3 = _ := hs 3 (by decide) (by kernel_rfl)
              simp only [e1, e3] at hK ⊢
              simp only [Act.put, List.setIfInBounds_toArray, List.set_cons_zero, List.set_cons_succ] at hK
              clear hs
              go_simp
              all_goals (try go_wp2_with (first | (go_at_call 12; (with_reducible refine (hBe _ hb).mono ?_); rintro e w' ⟨V8, rfl, hG8, hb8⟩)))
              all_goals first | (with_reducible exact hK.out _ _ ⟨_, rfl, hG8⟩ hb8) | (with_reducible exact hK.out _ _ ⟨_, rfl, o4⟩ nb_refl) | (with_reducible exact hK.out _ _ ⟨_, rfl, o5⟩ nb_refl) | (with_reducible exact hK.out _ _ ⟨_, rfl, o6⟩ nb_refl) | with_reducible exact hK.out _ _ rfl nb_refl | exact hK.out _ _ rfl (by assumption) | exact hK.out _ _ (by assumption) (by assumption)
            · cases ho
              obtain ⟨x4, e4, o4⟩ := hs 4 (by decide) (by kernel_rfl)
              simp only [e4] at hK ⊢
              simp only [Act.put, List.setIfInBounds_toArray, List.set_cons_zero, List.set_cons_succ] at hK
              clear hs
              go_simp
              all_goals (try go_wp2_with (first | (go_at_call 12; (with_reducible refine (hBe _ hb).mono ?_); rintro e w' ⟨V8, rfl, hG8, hb8⟩)))
              all_goals first | (with_reducible exact hK.out _ _ ⟨_, rfl, hG8⟩ hb8) | (with_reducible exact hK.out _ _ ⟨_, rfl, o4⟩ nb_refl) | (with_reducible exact hK.out _ _ ⟨_, rfl, o5⟩ nb_refl) | (with_reducible exact hK.out _ _ ⟨_, rfl, o6⟩ nb_refl) | with_reducible exact hK.out _ _ rfl nb_refl | exact hK.out _ _ rfl (by assumption) | exact hK.out _ _ (by assumption) (by assumption)
            · cases ho
              obtain ⟨x5, e5, o5⟩ := hs 5 (by decide) (by kernel_rfl)
              simp only [e5] at hK ⊢
              simp only [Act.put, List.setIfInBounds_toArray, List.set_cons_zero, List.set_cons_succ] at hK
              clear hs
              go_simp
              all_goals (try go_wp2_with (first | (go_at_call 12; (with_reducible refine (hBe _ hb).mono ?_); rintro e w' ⟨V8, rfl, hG8, hb8⟩)))
              all_goals first | (with_reducible exact hK.out _ _ ⟨_, rfl, hG8⟩ hb8) | (with_reducible exact hK.out _ _ ⟨_, rfl, o4⟩ nb_refl) | (with_reducible exact hK.out _ _ ⟨_, rfl, o5⟩ nb_refl) | (with_reducible exact hK.out _ _ ⟨_, rfl, o6⟩ nb_refl) | with_reducible exact hK.out _ _ rfl nb_refl | exact hK.out _ _ rfl (by assumption) | exact hK.out _ _ (by assumption) (by assumption)
            · cases ho
              obtain ⟨x5, e5, o5⟩ := hs 5 (by decide) (by kernel_rfl)
              simp only [e5] at hK ⊢
              simp only [Act.put, List.setIfInBounds_toArray, List.set_cons_zero, List.set_cons_succ] at hK
              clear hs
              go_simp
              all_goals (try go_wp2_with (first | (go_at_call 12; (with_reducible refine (hBe _ hb).mono ?_); rintro e w' ⟨V8, rfl, hG8, hb8⟩)))
              all_goals first | (with_reducible exact hK.out _ _ ⟨_, rfl, hG8⟩ hb8) | (with_reducible exact hK.out _ _ ⟨_, rfl, o4⟩ nb_refl) | (with_reducible exact hK.out _ _ ⟨_, rfl, o5⟩ nb_refl) | (with_reducible exact hK.out _ _ ⟨_, rfl, o6⟩ nb_refl) | with_reducible exact hK.out _ _ rfl nb_refl | exact hK.out _ _ rfl (by assumption) | exact hK.out _ _ (by assumption) (by assumption)
            · cases ho
              obtain ⟨x6, e6, o6⟩ := hs 6 (by decide) (by kernel_rfl)
              simp only [e6] at hK ⊢
              simp only [Act.put, List.setIfInBounds_toArray, List.set_cons_zero, List.set_cons_succ] at hK
              clear hs
              go_simp
              all_goals (try go_wp2_with (first | (go_at_call 12; (with_reducible refine (hBe _ hb).mono ?_); rintro e w' ⟨V8, rfl, hG8, hb8⟩)))
              all_goals first | (with_reducible exact hK.out _ _ ⟨_, rfl, hG8⟩ hb8) | (with_reducible exact hK.out _ _ ⟨_, rfl, o4⟩ nb_refl) | (with_reducible exact hK.out _ _ ⟨_, rfl, o5⟩ nb_refl) | (with_reducible exact hK.out _ _ ⟨_, rfl, o6⟩ nb_refl) | with_reducible exact hK.out _ _ rfl nb_refl | exact hK.out _ _ rfl (by assumption) | exact hK.out _ _ (by assumption) (by assumption)
            · cases ho
              have e7 : s 7 = _ := hs 7 (by decide) (by kernel_rfl)
              simp only [e7] at hK ⊢
              simp only [Act.put, List.setIfInBounds_toArray, List.set_cons_zero, List.set_cons_succ] at hK
              clear hs
              go_simp
              all_goals (try go_wp2_with (first | (go_at_call 12; (with_reducible refine (hBe _ hb).mono ?_); rintro e w' ⟨V8, rfl, hG8, hb8⟩)))
              all_goals first | (with_reducible exact hK.out _ _ ⟨_, rfl, hG8⟩ hb8) | (with_reducible exact hK.out _ _ ⟨_, rfl, o4⟩ nb_refl) | (with_reducible exact hK.out _ _ ⟨_, rfl, o5⟩ nb_refl) | (with_reducible exact hK.out _ _ ⟨_, rfl, o6⟩ nb_refl) | with_reducible exact hK.out _ _ rfl nb_refl | exact hK.out _ _ rfl (by assumption) | exact hK.out _ _ (by assumption) (by assumption)
          case ht_wu =>
            intro s w13 hs hb
            have e0 : s 0 = _ := hs 0 (by decide)
            have e1 : s 1 = _ := hs 1 (by decide)
            have e2 : s 2 = _ := hs 2 (by decide)
            have e3 : s 3 = _ := hs 3 (by decide)
            obtain ⟨x4, e4, o4⟩ := hs 4 (by decide)
            obtain ⟨x5, e5, o5⟩ := hs 5 (by decide)
            obtain ⟨x6, e6, o6⟩ := hs 6 (by decide)
            have e7 : s 7 = _ := hs 7 (by decide)
            obtain ⟨vs, e8, hs8⟩ := hs 8 (by decide)
            have e9 : s 9 = _ := hs 9 (by decide)
            simp only [e0, e1, e2, e3, e4, e5, e6, e7, e8, e9]
            clear hs e0 e1 e2 e3 e4 e5 e6 e7 e8 e9
          
            have L13 := bw_trans L12 hb
            have hfull := hs8
            replace hfew := hfew.below hb
            replace hp := hp.below hb
            have hA13 : AnyB w13 (some ⟨gs, 0, none⟩) 363 bLike := hAs12.below hb
            clear hBe hb hs8
            have hBe : ∀ W, NB w13 W → Calls Try.prog 12 #[.slice (some ⟨gs, 0, none⟩) 256 cs, .slice (some ⟨gs, 0, none⟩) 257 cs] W fun e w' => ∃ v, e = .returned (.tuple #[v, .int .i64 4]) ∧ PRow w' v [] ∧ NB W w' := fun W hb => bet4 gs cs W (hA13.below hb)
            go_wp2
            refine wp_region_monoN 10 rfl (fun i W v => match i with | 0 => v = .slice (some ⟨gs, 0, none⟩) 363 cs | 1 => v = .slice (some ⟨gs, 0, none⟩) 256 cs | 2 => v = .slice (some ⟨gs, 0, none⟩) 363 cs | 3 => v = .slice (some ⟨gs, 0, none⟩) 257 cs | 4 => ∃ x, v = .tuple #[x, .int .i64 4] ∧ PRow W x [] | 5 => ∃ x, v = .tuple #[x, .int .i64 4] ∧ PRow W x [] | 6 => ∃ x, v = x ∧ PRow W x [] | 7 => v = .int .i64 4 | 8 => ∃ x, v = x ∧ PRow W x [] | 9 => v = .int .i64 4 | _ => False) NB nb_drew (fun _ _ _ => nb_trans) ?A_wv (by kernel_rfl) (by kernel_rfl) ?hA_wv ?hmo_wv ?hq_wv ?ht_wv
            case hA_wv =>
              intro s
              simp only [putL, dstO, Act.put, List.getElem?_toArray, List.getElem?_cons_zero, List.getElem?_cons_succ, Option.bind_some, List.setIfInBounds_toArray, List.set_cons_zero, List.set_cons_succ, if_true]
              all_goals exact rfl
            case hmo_wv =>
              intro i W W' v hi _ hb h
              rcases (show i = 0 ∨ i = 1 ∨ i = 2 ∨ i = 3 ∨ i = 4 ∨ i = 5 ∨ i = 6 ∨ i = 7 ∨ i = 8 ∨ i = 9 by omega) with rfl | rfl | rfl | rfl | rfl | rfl | rfl | rfl | rfl | rfl
              all_goals first | exact h | (obtain ⟨x, e, o⟩ := h; exact ⟨x, e, PRow.below o hb⟩)
            case hq_wv =>
              intro i o hi ho s W hs hb K hK
              rcases (show i = 0 ∨ i = 1 ∨ i = 2 ∨ i = 3 ∨ i = 4 ∨ i = 5 ∨ i = 6 ∨ i = 7 ∨ i = 8 ∨ i = 9 by omega) with rfl | rfl | rfl | rfl | rfl | rfl | rfl | rfl | rfl | rfl
              · cases ho
                simp only [Act.put, List.setIfInBounds_toArray, List.set_cons_zero, List.set_cons_succ] at hK
                clear hs
                go_simp
                all_goals (try go_wp2_with (first | (go_at_call 12; (with_reducible refine (hBe _ hb).mono ?_); rintro e w' ⟨V8, rfl, hG8, hb8⟩)))
                all_goals first | (with_reducible exact hK.out _ _ ⟨_, rfl, hG8⟩ hb8) | (with_reducible exact hK.out _ _ ⟨_, rfl, o4⟩ nb_refl) | (with_reducible exact hK.out _ _ ⟨_, rfl, o5⟩ nb_refl) | (with_reducible exact hK.out _ _ ⟨_, rfl, o6⟩ nb_refl) | with_reducible exact hK.out _ _ rfl nb_refl | exact hK.out _ _ rfl (by assumption) | exact hK.out _ _ (by assumption) (by assumption)
              · cases ho
                have e0 : s 0 = _ := hs 0 (by decide) (by kernel_rfl)
                simp only [e0] at hK ⊢
                simp only [Act.put, List.setIfInBounds_toArray, List.set_cons_zero, List.set_cons_succ] at hK
                clear hs
                go_simp
                all_goals (try go_wp2_with (first | (go_at_call 12; (with_reducible refine (hBe _ hb).mono ?_); rintro e w' ⟨V8, rfl, hG8, hb8⟩)))
                all_goals first | (with_reducible exact hK.out _ _ ⟨_, rfl, hG8⟩ hb8) | (with_reducible exact hK.out _ _ ⟨_, rfl, o4⟩ nb_refl) | (with_reducible exact hK.out _ _ ⟨_, rfl, o5⟩ nb_refl) | (with_reducible exact hK.out _ _ ⟨_, rfl, o6⟩ nb_refl) | with_reducible exact hK.out _ _ rfl nb_refl | exact hK.out _ _ rfl (by assumption) | exact hK.out _ _ (by assumption) (by assumption)
              · cases ho
                simp only [Act.put, List.setIfInBounds_toArray, List.set_cons_zero, List.set_cons_succ] at hK
                clear hs
                go_simp
                all_goals (try go_wp2_with (first | (go_at_call 12; (with_reducible refine (hBe _ hb).mono ?_); rintro e w' ⟨V8, rfl, hG8, hb8⟩)))
                all_goals first | (with_reducible exact hK.out _ _ ⟨_, rfl, hG8⟩ hb8) | (with_reducible exact hK.out _ _ ⟨_, rfl, o4⟩ nb_refl) | (with_reducible exact hK.out _ _ ⟨_, rfl, o5⟩ nb_refl) | (with_reducible exact hK.out _ _ ⟨_, rfl, o6⟩ nb_refl) | with_reducible exact hK.out _ _ rfl nb_refl | exact hK.out _ _ rfl (by assumption) | exact hK.out _ _ (by assumption) (by assumption)
              · cases ho
                have e2 : s 2 = _ := hs 2 (by decide) (by kernel_rfl)
                simp only [e2] at hK ⊢
                simp only [Act.put, List.setIfInBounds_toArray, List.set_cons_zero, List.set_cons_succ] at hK
                clear hs
                go_simp
                all_goals (try go_wp2_with (first | (go_at_call 12; (with_reducible refine (hBe _ hb).mono ?_); rintro e w' ⟨V8, rfl, hG8, hb8⟩)))
                all_goals first | (with_reducible exact hK.out _ _ ⟨_, rfl, hG8⟩ hb8) | (with_reducible exact hK.out _ _ ⟨_, rfl, o4⟩ nb_refl) | (with_reducible exact hK.out _ _ ⟨_, rfl, o5⟩ nb_refl) | (with_reducible exact hK.out _ _ ⟨_, rfl, o6⟩ nb_refl) | with_reducible exact hK.out _ _ rfl nb_refl | exact hK.out _ _ rfl (by assumption) | exact hK.out _ _ (by assumption) (by assumption)
              · cases ho
                have e1 : s 1 = _ := hs 1 (by decide) (by kernel_rfl)
                have e3 : s 3 = _ := hs 3 (by decide) (by kernel_rfl)
                simp only [e1, e3] at hK ⊢
                simp only [Act.put, List.setIfInBounds_toArray, List.set_cons_zero, List.set_cons_succ] at hK
                clear hs
                go_simp
                all_goals (try go_wp2_with (first | (go_at_call 12; (with_reducible refine (hBe _ hb).mono ?_); rintro e w' ⟨V8, rfl, hG8, hb8⟩)))
                all_goals first | (with_reducible exact hK.out _ _ ⟨_, rfl, hG8⟩ hb8) | (with_reducible exact hK.out _ _ ⟨_, rfl, o4⟩ nb_refl) | (with_reducible exact hK.out _ _ ⟨_, rfl, o5⟩ nb_refl) | (with_reducible exact hK.out _ _ ⟨_, rfl, o6⟩ nb_refl) | with_reducible exact hK.out _ _ rfl nb_refl | exact hK.out _ _ rfl (by assumption) | exact hK.out _ _ (by assumption) (by assumption)
              · cases ho
                obtain ⟨x4, e4, o4⟩ := hs 4 (by decide) (by kernel_rfl)
                simp only [e4] at hK ⊢
                simp only [Act.put, List.setIfInBounds_toArray, List.set_cons_zero, List.set_cons_succ] at hK
                clear hs
                go_simp
                all_goals (try go_wp2_with (first | (go_at_call 12; (with_reducible refine (hBe _ hb).mono ?_); rintro e w' ⟨V8, rfl, hG8, hb8⟩)))
                all_goals first | (with_reducible exact hK.out _ _ ⟨_, rfl, hG8⟩ hb8) | (with_reducible exact hK.out _ _ ⟨_, rfl, o4⟩ nb_refl) | (with_reducible exact hK.out _ _ ⟨_, rfl, o5⟩ nb_refl) | (with_reducible exact hK.out _ _ ⟨_, rfl, o6⟩ nb_refl) | with_reducible exact hK.out _ _ rfl nb_refl | exact hK.out _ _ rfl (by assumption) | exact hK.out _ _ (by assumption) (by assumption)
              · cases ho
                obtain ⟨x5, e5, o5⟩ := hs 5 (by decide) (by kernel_rfl)
                simp only [e5] at hK ⊢
                simp only [Act.put, List.setIfInBounds_toArray, List.set_cons_zero, List.set_cons_succ] at hK
                clear hs
                go_simp
                all_goals (try go_wp2_with (first | (go_at_call 12; (with_reducible refine (hBe _ hb).mono ?_); rintro e w' ⟨V8, rfl, hG8, hb8⟩)))
                all_goals first | (with_reducible exact hK.out _ _ ⟨_, rfl, hG8⟩ hb8) | (with_reducible exact hK.out _ _ ⟨_, rfl, o4⟩ nb_refl) | (with_reducible exact hK.out _ _ ⟨_, rfl, o5⟩ nb_refl) | (with_reducible exact hK.out _ _ ⟨_, rfl, o6⟩ nb_refl) | with_reducible exact hK.out _ _ rfl nb_refl | exact hK.out _ _ rfl (by assumption) | exact hK.out _ _ (by assumption) (by assumption)
              · cases ho
                obtain ⟨x5, e5, o5⟩ := hs 5 (by decide) (by kernel_rfl)
                simp only [e5] at hK ⊢
                simp only [Act.put, List.setIfInBounds_toArray, List.set_cons_zero, List.set_cons_succ] at hK
                clear hs
                go_simp
                all_goals (try go_wp2_with (first | (go_at_call 12; (with_reducible refine (hBe _ hb).mono ?_); rintro e w' ⟨V8, rfl, hG8, hb8⟩)))
                all_goals first | (with_reducible exact hK.out _ _ ⟨_, rfl, hG8⟩ hb8) | (with_reducible exact hK.out _ _ ⟨_, rfl, o4⟩ nb_refl) | (with_reducible exact hK.out _ _ ⟨_, rfl, o5⟩ nb_refl) | (with_reducible exact hK.out _ _ ⟨_, rfl, o6⟩ nb_refl) | with_reducible exact hK.out _ _ rfl nb_refl | exact hK.out _ _ rfl (by assumption) | exact hK.out _ _ (by assumption) (by assumption)
              · cases ho
                obtain ⟨x6, e6, o6⟩ := hs 6 (by decide) (by kernel_rfl)
                simp only [e6] at hK ⊢
                simp only [Act.put, List.setIfInBounds_toArray, List.set_cons_zero, List.set_cons_succ] at hK
                clear hs
                go_simp
                all_goals (try go_wp2_with (first | (go_at_call 12; (with_reducible refine (hBe _ hb).mono ?_); rintro e w' ⟨V8, rfl, hG8, hb8⟩)))
                all_goals first | (with_reducible exact hK.out _ _ ⟨_, rfl, hG8⟩ hb8) | (with_reducible exact hK.out _ _ ⟨_, rfl, o4⟩ nb_refl) | (with_reducible exact hK.out _ _ ⟨_, rfl, o5⟩ nb_refl) | (with_reducible exact hK.out _ _ ⟨_, rfl, o6⟩ nb_refl) | with_reducible exact hK.out _ _ rfl nb_refl | exact hK.out _ _ rfl (by assumption) | exact hK.out _ _ (by assumption) (by assumption)
              · cases ho
                have e7 : s 7 = _ := hs 7 (by decide) (by kernel_rfl)
                simp only [e7] at hK ⊢
                simp only [Act.put, List.setIfInBounds_toArray, List.set_cons_zero, List.set_cons_succ] at hK
                clear hs
                go_simp
                all_goals (try go_wp2_with (first | (go_at_call 12; (with_reducible refine (hBe _ hb).mono ?_); rintro e w' ⟨V8, rfl, hG8, hb8⟩)))
                all_goals first | (with_reducible exact hK.out _ _ ⟨_, rfl, hG8⟩ hb8) | (with_reducible exact hK.out _ _ ⟨_, rfl, o4⟩ nb_refl) | (with_reducible exact hK.out _ _ ⟨_, rfl, o5⟩ nb_refl) | (with_reducible exact hK.out _ _ ⟨_, rfl, o6⟩ nb_refl) | with_reducible exact hK.out _ _ rfl nb_refl | exact hK.out _ _ rfl (by assumption) | exact hK.out _ _ (by assumption) (by assumption)
            case ht_wv =>
              intro s w14 hs hb
              have e0 : s 0 = _ := hs 0 (by decide)
              have e1 : s 1 = _ := hs 1 (by decide)
              have e2 : s 2 = _ := hs 2 (by decide)
              have e3 : s 3 = _ := hs 3 (by decide)
              obtain ⟨x4, e4, o4⟩ := hs 4 (by decide)
              obtain ⟨x5, e5, o5⟩ := hs 5 (by decide)
              obtain ⟨x6, e6, o6⟩ := hs 6 (by decide)
              have e7 : s 7 = _ := hs 7 (by decide)
              obtain ⟨vs, e8, hs8⟩ := hs 8 (by decide)
              have e9 : s 9 = _ := hs 9 (by decide)
              simp only [e0, e1, e2, e3, e4, e5, e6, e7, e8, e9]
              clear hs e0 e1 e2 e3 e4 e5 e6 e7 e8 e9
            
              have L14 := bw_trans L13 hb
              replace hfew := hfew.below hb
              replace hp := hp.below hb
              replace hfull := hfull.below hb
              obtain ⟨sf, cf, hvf, _⟩ := hfull
              subst hvf
              obtain ⟨sw, cw, hvw, _⟩ := hfew
              subst hvw
              obtain ⟨sx, cx, hvx, _⟩ := hp
              subst hvx
              rw [HLF.out, HLG.out]
              go_wp2_with (first | (go_at_call 13; (with_reducible refine (alive_s _).mono ?_); rintro e w15 ⟨rfl, hb15⟩))
              go_ret
              exact ⟨by first | rfl | simp, bw_trans L14 hb15⟩

/-- a row of boxes: none, or len of them in cells, with room for cap -/
def IsBoxes (w : World) (a : Option Addr) (len cap : Nat) : Prop :=
  (a = none ∧ len = 0 ∧ cap = 0) ∨ ∃ (x : Addr) (B : Nat → Bo), a = some x ∧ len ≤ cap ∧ cap ≤ maxLen ∧ len * 32 ≤ 140737488351232 ∧ ∀ i, i < len → w.cell? (x.add (i * 4)) = some (.float .f64 (B i).1) ∧ w.cell? (x.add (i * 4 + 1)) = some (.float .f64 (B i).2.1) ∧ w.cell? (x.add (i * 4 + 2)) = some (.float .f64 (B i).2.2.1) ∧ w.cell? (x.add (i * 4 + 3)) = some (.float .f64 (B i).2.2.2) ∧ okK .f64 (B i).1 ∧ okK .f64 (B i).2.1 ∧ okK .f64 (B i).2.2.1 ∧ okK .f64 (B i).2.2.2
theorem any_of {w : World} {a : Option Addr} {len cap : Nat} (h : IsBoxes w a len cap) : ∃ B, AnyB w a len B ∧ len * 32 ≤ 140737488351232 ∧ ∀ i, i < len → okK .f64 (B i).1 ∧ okK .f64 (B i).2.1 ∧ okK .f64 (B i).2.2.1 ∧ okK .f64 (B i).2.2.2 := by
  rcases h with ⟨rfl, rfl, rfl⟩ | ⟨x, B, rfl, hl, hm, hr, hcell⟩
  · exact ⟨fun _ => (0, 0, 0, 0), .inl rfl, by omega, fun i hi => by omega⟩
  · refine ⟨B, ?_, hr, fun i hi => (hcell i hi).2.2.2.2⟩
    rcases Nat.eq_zero_or_pos len with h0 | h0
    · exact .inl h0
    · right
      obtain ⟨b, off, spot⟩ := x
      have hspot : spot = none := by simpa [Addr.add] using World.cell?_spot (hcell 0 h0).1
      subst hspot
      have hc0 := (hcell 0 h0).1
      rw [add_plain] at hc0
      refine ⟨b, off, rfl, fun i hi => ?_, World.block_lt_of_cell? _ _ hc0⟩
      obtain ⟨h1, h2, h3, h4, _⟩ := hcell i hi
      rw [add_plain] at h1 h2 h3 h4
      rw [← Nat.add_assoc] at h2 h3 h4
      exact ⟨h1, h2, h3, h4⟩
theorem walk  (w : World)  :
    Calls Try.prog 3 #[] w fun e w' => e = .returned (.bool true) ∧ Below w.heap.size w w' := by
  exact walk_any  w 

set_option maxRecDepth 100000 in
theorem lifted (os : Os) (started : os.Started) (H : Type) (enc : TypeId × Value → H) :
    ReturnsInHanded {} Try.checked os 3 .any (Rows.sweepNamesSpec.pre6 enc Try.prog Try.f3 Rows.sweepNamesRow.domain false) (Rows.sweepNamesSpec.post enc Try.prog Try.f3 false true false false) := by
  refine returnsInHanded_of_change_sized (C := Try.checked) own started (by kernel_rfl) Try.func3
    (ChangeSpec.witness6 (enc := enc) (C := Try.checked) false ⟨#[], #[], []⟩ 8 (by kernel_rfl) (by kernel_rfl) (by kernel_rfl) (by kernel_rfl)) ?_
  intro W base args ds gs before hval0 hW hcnd hsz0 _
  have hsz : (DataW.weightsEach Try.prog (Try.f3.params.toList ++ Rows.sweepNamesSpec.plain.varTypes Try.prog) (ds ++ gs)).all (· ≤ reachBytes) = true := hsz0
  have hval : ∀ (j : Nat) t v, Try.f3.params[j]? = some t → args[j]? = some v → Value.okWide Try.prog W .any base t v := hval0
  have hW' := hW
  obtain ⟨p, q, hA0, hV, rfl, hfz, hnd⟩ := hW
  have hA : DataW.TrodAll enc Try.prog W 0 (fun _ => true) true Try.f3.params.toList args.toList ds p := hA0
  rw [Try.params3] at hA hval hsz
  obtain ⟨hargs, rfl, rfl⟩ := trodAll_nil hA
  obtain rfl : args = #[] := by cases args; simp_all
  obtain ⟨rfl, rfl⟩ := trodVars_none hV
  clear hA0 hval0 hsz0
  refine (walk  W ).mono fun e W' ⟨he, bel0⟩ => ?_
  have bel := bel0
  subst he
  exact ⟨_, rfl, _, _, _, [], _, [], hW', trodAll_mk1 (shut_bool Try.underlying4 _), trodAll_mk0, rfl, bel.frame _, fun h => by cases h⟩

theorem over : Rows.sweepNamesRow.holds Try.pinned (OpenSpec.ofChange Rows.sweepNamesSpec) :=
  OpenClaim.holds_of_wide 3 Try.f3 rfl rfl rfl rfl rfl rfl rfl ⟨rfl, rfl, rfl, rfl, rfl⟩ rfl rfl rfl rfl rfl (by kernel_rfl) Try.func3 (by kernel_rfl)
    (of_decide_eq_true (by kernel_rfl)) (by unfold Func.isWrapper; first | (rw [if_pos (by decide +kernel)]; kernel_rfl) | (rw [if_neg (by decide +kernel)]; exact ⟨rfl, rfl⟩))
    (fun os started H enc _ => lifted os started H enc)

theorem proved : Rows.SweepNamesSaid :=
  over
#print axioms proved
end Go.Proofs.Ytgcklheijcfneaa.sweepNames
