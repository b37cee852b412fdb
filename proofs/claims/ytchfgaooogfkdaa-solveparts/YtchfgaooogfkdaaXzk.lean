/-
  What each function of package poly answers, and what the reference of its chapter answers: one contract a function, for every float: the answer stands in the relation of its formula to what was given; of the memory that was there nothing has turned.
-/
import Derived.Test.YtchfgaooogfkdaaVec
import Derived.Test.YtchfgaooogfkdaaXzj
import Derived.Below
import Derived.OwnWalk
import Derived.Laws.AppendOwn
import Derived.Lib.SliceRun
import Derived.Laws.MakeOwn
import Derived.WalkKit
import Derived.WalkLawsBesides
import Derived.WalkSpells
import Derived.ProofKit
import Derived.OpenShut
import Derived.Deep.RegionHeld3
namespace Go.Proofs.Ytchfgaooogfkdaa
open Go.ChangeShapes Go.WideShapes Go.ChangeAt Go.RowKit
set_option linter.unusedVariables false
set_option linter.unusedSimpArgs false


theorem run_appF {w : World} {sv : Option Addr} {g n : Nat} {R N : List Value} (a : Nat) (hsv : (sv = none ∧ n = 0) ∨ sv = some ⟨g, 0, none⟩) (hR : R.length = n * 14) (hRw : Rw w g 0 R) (hN : N.length = 1 * 14) (hs : Rw w a 0 N) (h1 : ∀ u ∈ N, u.oneCell' = true) (hn : n ≤ 1000000) :
    ∃ g' cap' w', (Builtin.append_ #[22, 22] 22 #[.slice sv n n, .slice (some ⟨a, 0, none⟩) 1 1]).run Try.prog w = .ok (.slice (some ⟨g', 0, none⟩) (n + 1) cap') w' ∧ w.heap.size ≤ g' ∧ OwnR 14 w.heap.size w' (.slice (some ⟨g', 0, none⟩) (n + 1) cap') (n + 1) (R ++ N) ∧ Bel w w' := by
  rcases hsv with ⟨rfl, rfl⟩ | rfl
  · have e : R = [] := List.eq_nil_of_length_eq_zero (by omega)
    subst e
    obtain ⟨v', w', hr1, hr2, ⟨g', cap', rfl, hg⟩, hr4, _⟩ := run_appS (P := Try.prog) (base := w.heap.size) 22 22 56 Try.underlying22 info_row rfl a 0 1 1 (OwnR.nil 14 w.heap.size w) (N := N) hN hs h1 (by decide) (Nat.le_refl _) (by unfold maxLen; omega) (by omega)
    refine ⟨g', cap', w', hr1, ?_, hr2, hr4 w (bl_refl w) (Nat.le_refl _)⟩
    rcases hg with h | ⟨cp, h⟩
    · exact h
    · cases h
  · obtain ⟨i0, hi, hz0, hz1, hz2⟩ := info_parts info_row
    have hmx : maxLen ≤ 9223372036854775807 := by unfold maxLen; decide
    have hml : n + 1 ≤ maxLen := by unfold maxLen; omega
    have hr' := run_append_grow (P := Try.prog) w 22 22 56 i0 (.agg #[.int .i64 0, .int .i64 0, .float .f64 0, .float .f64 0, .float .f64 0, .float .f64 0, .float .f64 0, .float .f64 0, .float .f64 0, .float .f64 0, .float .f64 0, .float .f64 0, .int .i64 0, .float .f64 0]) Try.underlying22 hi hz0 ⟨g, 0, none⟩ n n R (by rw [hz1, hR]) (fun j u hj => by rw [add_plain]; exact hRw j u hj) ⟨a, 0, none⟩ 1 1 N (by rw [hz1, hN]) (fun j u hj => by rw [add_plain]; exact hs j u hj) (by omega) (by omega) (by rw [hz2]; exact growslice_fits (by omega) (by omega))
    refine ⟨_, _, _, hr', Nat.le_refl _, ?_, bl_alloc (bl_drew (bl_refl w)) _ _⟩
    have hge := grownCap_ge w (n + 1) n 56
    refine ownR_new (w := w.drew) (by rw [List.length_append, hR, hN]; omega) (Nat.le_refl _) hge (grownCap_le_maxLen w (n + 1) n 56 hml) ?_ (fun j u hj => ?_)
    · simp only [Array.size_append, List.size_toArray, size_zeroCells]
      rw [hR, hN]
      show _ + _ * 14 = _
      omega
    · have hjl : j < (R ++ N).length := (List.getElem?_eq_some_iff.1 hj).1
      rw [Array.getElem?_append_left (by simpa using hjl), show R.toArray ++ N.toArray = (R ++ N).toArray by simp, List.getElem?_toArray]
      exact hj
theorem there_cells {w : World} {g n : Nat} (h : w.there g 0 n) : ∃ R : List Value, R.length = n ∧ Rw w g 0 R := by
  refine ⟨(List.range n).map (fun j => (w.cell? ⟨g, j, none⟩).getD undef), by simp, fun j u hj => ?_⟩
  have hl : j < n := by have := (List.getElem?_eq_some_iff.1 hj).1; simpa using this
  have h1 := (h j hl).1
  rw [Nat.zero_add] at h1
  obtain ⟨x, hx⟩ := Option.isSome_iff_exists.1 h1
  rw [Nat.zero_add, hx]
  simp [hl, hx] at hj
  rw [hj]
structure TwoG (B : Nat) (w : World) (vr vs : Value) (c d : Nat) : Prop where
  r : ∃ R, OwnR 14 B w vr c R
  s : ∃ R, OwnR 5 B w vs d R
  d : ∀ go co gn cn, vr = .slice (some ⟨go, 0, none⟩) c co → vs = .slice (some ⟨gn, 0, none⟩) d cn → go ≠ gn
set_option maxRecDepth 100000 in
set_option maxHeartbeats 4000000 in
theorem g_s {B g' cap' c d : Nat} {w0 w1 : World} {vs : Value} {Rr Rs : List Value} (hr : OwnR 14 B w1 (.slice (some ⟨g', 0, none⟩) (c + 1) cap') (c + 1) Rr) (hs : OwnR 5 B w1 vs d Rs) (hne : ∀ gn cn, vs = .slice (some ⟨gn, 0, none⟩) d cn → g' ≠ gn) (h0 : Bel w0 w1) (hB : B = w0.heap.size) (hd : d ≤ 10) : ∃ vs' w2, (Builtin.append_ #[23, 23] 23 #[vs, .slice (some ⟨w1.heap.size, 0, none⟩) 1 1]).run Try.prog (w1.alloc (.cells #[.float .f64 0, .float .f64 0, .float .f64 0, .float .f64 0, .float .f64 4636526185122103296] 35)) = .ok vs' w2 ∧ TwoG B w2 (.slice (some ⟨g', 0, none⟩) (c + 1) cap') vs' (c + 1) (d + 1) ∧ Bel w0 w2 ∧ ∃ gs cs, vs' = .slice (some ⟨gs, 0, none⟩) (d + 1) cs := by
  have bB : Bel w1 (w1.alloc (.cells #[.float .f64 0, .float .f64 0, .float .f64 0, .float .f64 0, .float .f64 4636526185122103296] 35)) := bl_alloc (bl_refl _) _ _
  have zB : w1.heap.size < (w1.alloc (.cells #[.float .f64 0, .float .f64 0, .float .f64 0, .float .f64 0, .float .f64 4636526185122103296] 35)).heap.size := by rw [World.size_alloc]; omega
  have g1 := own_lt hr (by omega) (by decide)
  obtain ⟨vs', w2, r2, o2, ⟨g2, cap2, rfl, hg2⟩, b2, ot2, _⟩ := run_appS (P := Try.prog) 23 23 35 Try.underlying23 info_still rfl w1.heap.size 0 1 1 (hs.bel bB) (N := [.float .f64 0, .float .f64 0, .float .f64 0, .float .f64 0, .float .f64 4636526185122103296]) rfl (rng_new w1 [.float .f64 0, .float .f64 0, .float .f64 0, .float .f64 0, .float .f64 4636526185122103296] 35) (by intro u hu; simp only [List.mem_cons, List.not_mem_nil, or_false] at hu; rcases hu with rfl | rfl | rfl | rfl | rfl <;> rfl) (by decide) (by have := (bl_trans h0 bB).size; omega) (by unfold maxLen; omega) (by omega)
  have B2 := b2 w0 (bl_trans h0 bB) (by omega)
  have f2 : ∀ a, w2.frozen? a = (w1.alloc (.cells #[.float .f64 0, .float .f64 0, .float .f64 0, .float .f64 0, .float .f64 4636526185122103296] 35)).frozen? a := fun a => (B2.2 a).trans ((bl_trans h0 bB).2 a).symm
  refine ⟨_, w2, r2, ⟨⟨Rr, own_other (hr.bel bB) (fun g cp e o => ?_) f2⟩, ⟨_, o2⟩, fun go co gn cn e1 e2 => ?_⟩, B2, _, _, rfl⟩
  · injection e with e1
    injection e1 with e2
    injection e2 with e3
    subst e3
    exact ot2.1 _ o (by omega) (fun gg cpp e4 => hne gg cpp e4)
  · injection e1 with e3
    injection e3 with e4
    injection e4 with e5
    injection e2 with e6
    injection e6 with e7
    injection e7 with e8
    subst e5 e8
    rcases hg2 with hg | ⟨cp, hg⟩
    · omega
    · exact hne _ cp hg
set_option maxRecDepth 100000 in
set_option maxHeartbeats 4000000 in
theorem spoil_w (g n : Nat) (sl : Option Addr) (w W0 : World) (hsl : (sl = none ∧ n = 0) ∨ sl = some ⟨g, 0, none⟩) (hth : w.there g 0 (n * 14)) (hW : Bel W0 w) (hg : W0.heap.size ≤ g) (hn : n ≤ 1000) : Calls Try.prog 25 #[.slice sl n n, .slice none 0 0] w fun e w' => e = .returned (.tuple #[]) ∧ Bel W0 w' := by
  go_enter Try.func25, Try.ntmps25
  repeat (first | go_values | go_skip | go_guarded | go_step | go_upon | go_back | dsimp only)
  go_loopw [4] (fun i wr => ∃ k : Nat, k ≤ n ∧ i = .int .i64 k ∧ Bel W0 wr ∧ wr.there g 0 (n * 14)) (fun i _ => n - (intOf i).toNat)
  case atStart => exact ⟨0, by omega, rfl, hW, hth⟩
  case round =>
    clear hth
    obtain ⟨k, hk, rfl, hB, hth⟩ := hrel
    by_cases hlt : k < n
    · have e9 : sl = some ⟨g, 0, none⟩ := by rcases hsl with h | h; omega; exact h
      subst e9
      have hkI : (k : Int) < (n : Int) := by omega
      have hX9 : wr.there g (k * 14) 14 := fun j hj => by have h := hth (k * 14 + j) (by omega); rwa [Nat.zero_add] at h
      repeat (first | ((with_reducible show Oper.wp _ { dst := _, op := Op.build 56 _, type := _, pos := _, after := _, guard := _ } _ _ _ _); refine wp_build 56 _ rfl (.agg #[.int .i64 0, .int .i64 0, .float .f64 0, .float .f64 0, .float .f64 0, .float .f64 0, .float .f64 0, .float .f64 0, .float .f64 0, .float .f64 0, .float .f64 0, .float .f64 0, .int .i64 98, .float .f64 0]) (by kernel_rfl) ?_; simp only [go_sem]) | ((with_reducible show Oper.wp _ { dst := _, op := Op.store 56 _ _, type := _, pos := _, after := _, guard := _ } _ _ _ _); refine wp_store_mid (P := Try.prog) 56 _ _ rfl (g) (k * 14) #[.int .i64 0, .int .i64 0, .float .f64 0, .float .f64 0, .float .f64 0, .float .f64 0, .float .f64 0, .float .f64 0, .float .f64 0, .float .f64 0, .float .f64 0, .float .f64 0, .int .i64 98, .float .f64 0] rfl rfl hX9 (by kernel_rfl) (by kernel_rfl) ?_; simp only [go_sem]) | go_values | go_skip | go_guarded | go_step | go_upon | go_back | dsimp only)
      exact ⟨⟨k + 1, by omega, by go_num, bel_setsJ _ _ hB hg, World.there_setCells hth _ _ _⟩, by simp [intOf]; omega⟩
    · have hkn : n = k := by omega
      subst hkn
      obtain ⟨w1, rfl⟩ : ∃ w1, w1 = wr := ⟨_, rfl⟩
      repeat (first | go_values | go_skip | go_guarded | go_step | go_upon | go_back | dsimp only)
      go_loopw [5] (fun i wr => i = .int .i64 0 ∧ wr = w1) (fun _ _ => 0)
      case atStart => exact ⟨rfl, rfl⟩
      case round =>
        obtain ⟨h9, hw9⟩ := hrel
        subst h9
        subst hw9
        obtain ⟨wL, rfl⟩ : ∃ wL, wL = wr := ⟨_, rfl⟩
        obtain ⟨R, hRl, hRw⟩ := there_cells hth
        repeat (first | go_values | go_skip | go_guarded | go_step | go_upon | go_back | dsimp only)
        go_loopw [6, 0, 1] (fun i r s w9 => ∃ k : Nat, k ≤ 4 ∧ i = .int .i64 k ∧ Bel wL w9 ∧ ((k = 0 ∧ r = .slice sl n n ∧ s = .slice none 0 0) ∨ (0 < k ∧ TwoG wL.heap.size w9 r s (n + k) k ∧ ∃ gr cr gs cs, r = .slice (some ⟨gr, 0, none⟩) (n + k) cr ∧ s = .slice (some ⟨gs, 0, none⟩) k cs))) (fun i _ _ _ => 4 - (intOf i).toNat)
        case atStart => exact ⟨0, by omega, rfl, bl_refl _, .inl ⟨rfl, rfl, rfl⟩⟩
        case round =>
          obtain ⟨k, hk, rfl, hB9, hv⟩ := hrel
          have bA : Bel wr (wr.alloc (.cells #[.int .i64 0, .int .i64 0, .float .f64 0, .float .f64 0, .float .f64 0, .float .f64 0, .float .f64 0, .float .f64 0, .float .f64 0, .float .f64 0, .float .f64 0, .float .f64 0, .int .i64 97, .float .f64 0] 56)) := bl_alloc (bl_refl _) _ _
          have zA : wr.heap.size < (wr.alloc (.cells #[.int .i64 0, .int .i64 0, .float .f64 0, .float .f64 0, .float .f64 0, .float .f64 0, .float .f64 0, .float .f64 0, .float .f64 0, .float .f64 0, .float .f64 0, .float .f64 0, .int .i64 97, .float .f64 0] 56)).heap.size := by rw [World.size_alloc]; omega
          have hN97 : Rw (wr.alloc (.cells #[.int .i64 0, .int .i64 0, .float .f64 0, .float .f64 0, .float .f64 0, .float .f64 0, .float .f64 0, .float .f64 0, .float .f64 0, .float .f64 0, .float .f64 0, .float .f64 0, .int .i64 97, .float .f64 0] 56)) wr.heap.size 0 [.int .i64 0, .int .i64 0, .float .f64 0, .float .f64 0, .float .f64 0, .float .f64 0, .float .f64 0, .float .f64 0, .float .f64 0, .float .f64 0, .float .f64 0, .float .f64 0, .int .i64 97, .float .f64 0] := rng_new wr [.int .i64 0, .int .i64 0, .float .f64 0, .float .f64 0, .float .f64 0, .float .f64 0, .float .f64 0, .float .f64 0, .float .f64 0, .float .f64 0, .float .f64 0, .float .f64 0, .int .i64 97, .float .f64 0] 56
          have sA := (bl_trans hB9 bA).size
          by_cases hlk : k < 4
          · have hkI : (k : Int) < 4 := by omega
            obtain ⟨gr', cr', w1, vs', w2, a1, a2, aT, aB, gs', cs', ags⟩ : ∃ gr' cr' w1 vs' w2, (Builtin.append_ #[22, 22] 22 #[u0, .slice (some ⟨wr.heap.size, 0, none⟩) 1 1]).run Try.prog (wr.alloc (.cells #[.int .i64 0, .int .i64 0, .float .f64 0, .float .f64 0, .float .f64 0, .float .f64 0, .float .f64 0, .float .f64 0, .float .f64 0, .float .f64 0, .float .f64 0, .float .f64 0, .int .i64 97, .float .f64 0] 56)) = .ok (.slice (some ⟨gr', 0, none⟩) (n + k + 1) cr') w1 ∧ (Builtin.append_ #[23, 23] 23 #[u1, .slice (some ⟨w1.heap.size, 0, none⟩) 1 1]).run Try.prog (w1.alloc (.cells #[.float .f64 0, .float .f64 0, .float .f64 0, .float .f64 0, .float .f64 4636526185122103296] 35)) = .ok vs' w2 ∧ TwoG wL.heap.size w2 (.slice (some ⟨gr', 0, none⟩) (n + k + 1) cr') vs' (n + k + 1) (k + 1) ∧ Bel wL w2 ∧ ∃ gs cs, vs' = .slice (some ⟨gs, 0, none⟩) (k + 1) cs := by
              rcases hv with ⟨h0, rfl, rfl⟩ | ⟨hk0, hT, gr, cr, gs, cs, rfl, rfl⟩
              · subst h0
                obtain ⟨g', cap', w1, f1, f2, f3, f4⟩ := run_appF (w := (wr.alloc (.cells #[.int .i64 0, .int .i64 0, .float .f64 0, .float .f64 0, .float .f64 0, .float .f64 0, .float .f64 0, .float .f64 0, .float .f64 0, .float .f64 0, .float .f64 0, .float .f64 0, .int .i64 97, .float .f64 0] 56))) wr.heap.size hsl hRl (hRw.bel (bl_trans hB9 bA)) rfl hN97 (by intro u hu; simp only [List.mem_cons, List.not_mem_nil, or_false] at hu; rcases hu with rfl | rfl | rfl | rfl | rfl | rfl | rfl | rfl | rfl | rfl | rfl | rfl | rfl | rfl <;> rfl) (by omega)
                obtain ⟨vs', w2, f5, f6, f7, f8⟩ := g_s (B := wL.heap.size) (d := 0) (w0 := wL) (f3.base9 sA) (OwnR.nil 5 _ w1) (fun gn cn e => by cases e) (bl_trans (bl_trans hB9 bA) f4) rfl (by omega)
                exact ⟨g', cap', w1, vs', w2, f1, f5, f6, f7, f8⟩
              · obtain ⟨Rr, hr⟩ := hT.r
                obtain ⟨Rs, hs⟩ := hT.s
                obtain ⟨vo', w1, r1, o1, ⟨g', cap', rfl, hg'⟩, b1, ot1, _⟩ := run_appS (P := Try.prog) 22 22 56 Try.underlying22 info_row rfl wr.heap.size 0 1 1 (hr.bel bA) (N := [.int .i64 0, .int .i64 0, .float .f64 0, .float .f64 0, .float .f64 0, .float .f64 0, .float .f64 0, .float .f64 0, .float .f64 0, .float .f64 0, .float .f64 0, .float .f64 0, .int .i64 97, .float .f64 0]) rfl hN97 (by intro u hu; simp only [List.mem_cons, List.not_mem_nil, or_false] at hu; rcases hu with rfl | rfl | rfl | rfl | rfl | rfl | rfl | rfl | rfl | rfl | rfl | rfl | rfl | rfl <;> rfl) (by decide) (by omega) (by unfold maxLen; omega) (by omega)
                have B1 := b1 wL (bl_trans hB9 bA) (Nat.le_refl _)
                have f1 : ∀ a, w1.frozen? a = (wr.alloc (.cells #[.int .i64 0, .int .i64 0, .float .f64 0, .float .f64 0, .float .f64 0, .float .f64 0, .float .f64 0, .float .f64 0, .float .f64 0, .float .f64 0, .float .f64 0, .float .f64 0, .int .i64 97, .float .f64 0] 56)).frozen? a := fun a => (B1.2 a).trans ((bl_trans hB9 bA).2 a).symm
                have hgs := (own_lt hs hk0 (by decide)).1
                have n1 : OwnR 5 wL.heap.size w1 (.slice (some ⟨gs, 0, none⟩) k cs) k Rs := own_other (hs.bel bA) (fun g9 cp e o => by
                  injection e with e1
                  injection e1 with e2
                  injection e2 with e3
                  subst e3
                  exact ot1.1 _ o (by omega) (fun gg cpp e2 => (hT.d gg cpp _ cs e2 rfl).symm)) f1
                obtain ⟨vs', w2, f5, f6, f7, f8⟩ := g_s (B := wL.heap.size) (d := k) (w0 := wL) o1 n1 (fun gn cn e => by
                  injection e with e1
                  injection e1 with e2
                  injection e2 with e3
                  subst e3
                  rcases hg' with hg9 | ⟨cp, hg9⟩
                  · omega
                  · exact hT.d _ cp _ cs hg9 rfl) B1 rfl (by omega)
                exact ⟨g', cap', w1, vs', w2, r1, f5, f6, f7, f8⟩
            subst ags
            repeat (first | ((with_reducible show Oper.wp _ { dst := _, op := Op.build 56 _, type := _, pos := _, after := _, guard := _ } _ _ _ _); refine wp_build 56 _ rfl (.agg #[.int .i64 0, .int .i64 0, .float .f64 0, .float .f64 0, .float .f64 0, .float .f64 0, .float .f64 0, .float .f64 0, .float .f64 0, .float .f64 0, .float .f64 0, .float .f64 0, .int .i64 97, .float .f64 0]) (by kernel_rfl) ?_; simp only [go_sem]) | ((with_reducible show Oper.wp _ { dst := _, op := Op.build 35 _, type := _, pos := _, after := _, guard := _ } _ _ _ _); refine wp_build 35 _ rfl (.agg #[.float .f64 0, .float .f64 0, .float .f64 0, .float .f64 0, .float .f64 4636526185122103296]) (by kernel_rfl) ?_; simp only [go_sem]) | ((with_reducible show wpList _ _ _ ({ dst := some 34, op := _, type := _, pos := _, after := _, guard := _ } :: _) _ _); at_builtin; refine wpList_runX 22 rfl (.tmp 31) (.tmp 33) rfl rfl rfl a1 ?_) | ((with_reducible show wpList _ _ _ ({ dst := some 38, op := _, type := _, pos := _, after := _, guard := _ } :: _) _ _); at_builtin; refine wpList_runX 23 rfl (.tmp 35) (.tmp 37) rfl rfl rfl a2 ?_) | go_values | go_skip | go_guarded | go_step | go_upon | go_back | dsimp only)
            exact ⟨⟨k + 1, by omega, by first | go_num | rfl, aB, .inr ⟨by omega, aT, gr', cr', gs', cs', rfl, rfl⟩⟩, by simp [intOf]; omega⟩
          · have hk4 : ¬ (k : Int) < 4 := by omega
            rcases hv with ⟨h0, _⟩ | ⟨hk0, hT, gr, cr, gs, cs, rfl, rfl⟩
            · omega
            obtain ⟨Rr, hr⟩ := hT.r
            have hlen : 0 < n + k := by omega
            obtain ⟨c0, f0, hbg⟩ : (wr.cell? ⟨gr, 0, none⟩).isSome = true ∧ wr.frozen? ⟨gr, 0, none⟩ = false ∧ wL.heap.size ≤ gr := by
              rcases hr.2 with ⟨e, _⟩ | ⟨g9, c9, e, h1, h2, h3, h4, h5, h6⟩
              · cases e
              · injection e with e1 e2 e3
                injection e1 with e4
                injection e4 with e5
                subst e3 e5
                exact ⟨h5 0 (by omega), h6 0, h1⟩
            obtain ⟨v0, hv0⟩ := Option.isSome_iff_exists.1 c0
            have l1 : (0 : Int) < ((n + k : Nat) : Int) + (k : Int) := by omega
            have l2 : (0 : Int) < ((n + k : Nat) : Int) := by omega
            have l3 : 0 < n + k + k := by omega
            clear hT hr c0
            repeat (first | go_values | go_skip | go_guarded | go_step | go_upon | go_back | dsimp only)
            refine bodyPost_end (v := .tuple #[]) (by kernel_rfl) rfl ?_
            exact ⟨rfl, bl_trans hB (bel_set1 hB9 hbg)⟩

end Go.Proofs.Ytchfgaooogfkdaa
