/-
  What each function of package island that Join reaches answers, and what the reference of its chapter answers: one contract a function.
-/
import Derived.Test.YtmphpmkhddnfdaaIb
import Derived.Test.YtmphpmkhddnfdaaChecked
import Derived.Below
import Derived.OwnWalk
import Derived.Laws.AppendOwn
import Derived.Lib.SliceRun
import Derived.Laws.MakeOwn
import Derived.WalkKit
import Derived.WalkLawsBesides
import Derived.WalkSpells
import Derived.ProofKit
import Derived.OpenShut
import Derived.Deep.RegionHeld3
import Derived.Deep.MidRow
import Derived.Laws.EntriesVeiled
import Derived.BigQuiet
import Derived.ChangeKeysEq
namespace Go.Proofs.Ytmphpmkhddnfdaa
open Go.ChangeShapes Go.WideShapes Go.ChangeAt Go.RowKit
set_option linter.unusedVariables false
set_option linter.unusedSimpArgs false

theorem info_sl : (Try.prog.info? 63).map (fun i => (i.zero, i.size, i.bytes)) = some (some (.slice none 0 0), 1, 24) := by kernel_rfl
/-- what is appended to a list that is full goes into a block of its own -/
theorem run_appG {w : World} {sv : Option Addr} {g n : Nat} {R N : List Value} (a : Nat) (hsv : (sv = none ∧ n = 0) ∨ sv = some ⟨g, 0, none⟩) (hR : R.length = n) (hRw : Rw w g 0 R) (hN : N.length = 1) (hs : Rw w a 0 N) (h1 : ∀ u ∈ N, u.oneCell' = true) (hn : n ≤ 1000000) :
    ∃ v' w', (Builtin.append_ #[63, 63] 63 #[.slice sv n n, .slice (some ⟨a, 0, none⟩) 1 1]).run Try.prog w = .ok v' w' ∧ OwnR 1 w.heap.size w' v' (n + 1) (R ++ N) ∧ Bel w w' := by
  rcases hsv with ⟨rfl, rfl⟩ | rfl
  · have e : R = [] := List.eq_nil_of_length_eq_zero hR
    subst e
    obtain ⟨v', w', hr1, hr2, hr3, hr4⟩ := run_appR (P := Try.prog) (base := w.heap.size) 63 63 3 Try.underlying63 info_int rfl a 0 1 1 (OwnR.nil 1 w.heap.size w) (N := N) hN hs h1 (by decide) (Nat.le_refl _) (by unfold maxLen; omega) (by omega)
    exact ⟨v', w', hr1, hr2, hr4 w (bl_refl w) (Nat.le_refl _)⟩
  · obtain ⟨i0, hi, hz0, hz1, hz2⟩ := info_parts info_int
    have hmx : maxLen ≤ 9223372036854775807 := by unfold maxLen; decide
    have hml : n + 1 ≤ maxLen := by unfold maxLen; omega
    have hr' := run_append_grow (P := Try.prog) w 63 63 3 i0 (.int .i64 0) Try.underlying63 hi hz0 ⟨g, 0, none⟩ n n R (by rw [hz1, hR, Nat.mul_one]) (fun j u hj => by rw [add_plain]; exact hRw j u hj) ⟨a, 0, none⟩ 1 1 N (by rw [hz1, hN]) (fun j u hj => by rw [add_plain]; exact hs j u hj) (by omega) (by omega) (by rw [hz2]; exact growslice_fits (by omega) (by omega))
    refine ⟨_, _, hr', ?_, bl_alloc (bl_drew (bl_refl w)) _ _⟩
    have hge := grownCap_ge w (n + 1) n 3
    refine ownR_new (w := w.drew) (by rw [List.length_append, hR, hN, Nat.mul_one]) (Nat.le_refl _) hge (grownCap_le_maxLen w (n + 1) n 3 hml) ?_ (fun j u hj => ?_)
    · simp only [Array.size_append, List.size_toArray, size_zeroCells]
      rw [hR, hN]
      show _ + _ * 1 = _
      omega
    · have hjl : j < (R ++ N).length := (List.getElem?_eq_some_iff.1 hj).1
      rw [Array.getElem?_append_left (by simpa using hjl), show R.toArray ++ N.toArray = (R ++ N).toArray by simp, List.getElem?_toArray]
      exact hj
theorem own_base {sz b b2 : Nat} {w : World} {v : Value} {n : Nat} {R : List Value} (h : OwnR sz b w v n R) (g : b2 ≤ b) : OwnR sz b2 w v n R := by
  refine ⟨h.1, ?_⟩
  rcases h.2 with h | ⟨k, cap, e, h1, h2⟩
  · exact .inl h
  · exact .inr ⟨k, cap, e, Nat.le_trans g h1, h2⟩
theorem own_at {b : Nat} {w : World} {v : Value} {n : Nat} {R : List Value} (h : OwnR 1 b w v n R) (hn : 0 < n) : ∃ g cap, v = .slice (some ⟨g, 0, none⟩) n cap ∧ b ≤ g ∧ n ≤ cap ∧ cap ≤ maxLen ∧ g < w.heap.size ∧ Rw w g 0 R := by
  rcases h.2 with ⟨_, h⟩ | ⟨g, cap, e, h1, h2, h3, h4, h5, h6⟩
  · omega
  · refine ⟨g, cap, e, h1, h2, h3, ?_, h4⟩
    obtain ⟨x, hx⟩ := Option.isSome_iff_exists.1 (h5 0 (by omega))
    exact World.block_lt_of_cell? w _ hx
def upW (i k : Nat) : Int := 100 * (i : Int) + (k : Int)
def dnW (i k : Nat) : Int := -100 * (i : Int) - (k : Int)
def upL (i n : Nat) : List Value := (List.range n).map (fun k => .int .i64 (upW i k))
def dnL (i n : Nat) : List Value := (List.range n).map (fun k => .int .i64 (dnW i k))
theorem upL_at {i n k : Nat} (h : k < n) : (upL i n)[k]? = some (.int .i64 (upW i k)) := by simp [upL, h]
theorem dnL_at {i n k : Nat} (h : k < n) : (dnL i n)[k]? = some (.int .i64 (dnW i k)) := by simp [dnL, h]
theorem upL_len (i n : Nat) : (upL i n).length = n := by simp [upL]
theorem dnL_len (i n : Nat) : (dnL i n).length = n := by simp [dnL]
theorem dnL_succ (i n : Nat) : dnL i (n + 1) = dnL i n ++ [.int .i64 (dnW i n)] := by simp [dnL, List.range_succ]
set_option maxRecDepth 100000 in
set_option maxHeartbeats 4000000 in
theorem apart_w (ab n : Nat) (sv : Nat → Option Addr) (g : Nat → Nat) (X0 : Nat → Nat → Int) (w W0 : World) (hn : n ≤ 16384) (hal : (∀ q, q < 2 → w.cell? ⟨ab, q, none⟩ = some (.slice (sv q) n n))) (hsv : ∀ q, q < 2 → (sv q = none ∧ n = 0) ∨ sv q = some ⟨g q, 0, none⟩) (hI : ∀ q, q < 2 → IntM w (g q) n (X0 q)) (hgd : ∀ p q, p < 2 → q < 2 → p ≠ q → g p ≠ g q) (hgab : ∀ q, q < 2 → g q ≠ ab) (hW : Bel W0 w) (hgW : ∀ q, q < 2 → W0.heap.size ≤ g q) : Calls Try.prog 18 #[.slice (some ⟨ab, 0, none⟩) 2 2] w fun e w' => e = .returned (.bool true) ∧ Bel W0 w' := by
  go_enter Try.func18, Try.ntmps18
  repeat (first | go_values | go_skip | go_guarded | go_step | go_upon | go_back | dsimp only)
  go_loopw [3] (fun c wr => ∃ i : Nat, i ≤ 2 ∧ c = .int .i64 i ∧ Bel W0 wr ∧ (∀ q, q < 2 → wr.cell? ⟨ab, q, none⟩ = some (.slice (sv q) n n)) ∧ ∃ X : Nat → Nat → Int, (∀ q, q < 2 → IntM wr (g q) n (X q)) ∧ ∀ q, q < i → ∀ k, k < n → X q k = upW q k) (fun c _ => 2 - (intOf c).toNat)
  case atStart => exact ⟨0, by omega, rfl, hW, hal, X0, hI, fun q hq => by omega⟩
  case round =>
    clear hal hI
    obtain ⟨i, hi, rfl, hB, hal, X, hI, hX⟩ := hrel
    by_cases hlt : i < 2
    · have hiI : (i : Int) < 2 := by omega
      have hai := hal i hlt
      repeat (first | go_values | go_skip | go_guarded | go_step | go_upon | go_back | dsimp only)
      go_loopw [4] (fun c wr => ∃ k : Nat, k ≤ n ∧ c = .int .i64 k ∧ Bel W0 wr ∧ (∀ q, q < 2 → wr.cell? ⟨ab, q, none⟩ = some (.slice (sv q) n n)) ∧ ∃ X : Nat → Nat → Int, (∀ q, q < 2 → IntM wr (g q) n (X q)) ∧ (∀ q, q < i → ∀ k, k < n → X q k = upW q k) ∧ ∀ j, j < k → X i j = upW i j) (fun c _ => n - (intOf c).toNat)
      case atStart => exact ⟨0, by omega, rfl, hB, hal, X, hI, hX, fun j hj => by omega⟩
      case round =>
        clear hal hI hX hB hai
        obtain ⟨k, hk, rfl, hB, hal, X, hI, hX, hXk⟩ := hrel
        have hai := hal i hlt
        by_cases hlk : k < n
        · have hkI : (k : Int) < (n : Int) := by omega
          have es : sv i = some ⟨g i, 0, none⟩ := by rcases hsv i hlt with h | h; omega; exact h
          rw [es] at hai
          have ka := (hI i hlt).at_ k hlk
          have fa := (hI i hlt).fr k hlk
          repeat (first | go_values | go_skip | go_guarded | go_step | go_upon | go_back | dsimp only)
          refine ⟨⟨k + 1, by omega, by first | go_num | rfl, bel_set1 hB (hgW i hlt), fun q hq => ?_, fun q => if q = i then updI (X i) k (upW i k) else X q, fun q hq => ?_, fun q hq j hj => ?_, fun j hj => ?_⟩, by simp [intOf]; omega⟩
          · rw [set_block (Ne.symm (hgab i hlt))]; exact hal q hq
          · by_cases e : q = i
            · subst e; simp only [if_true]; exact (hI q hq).set hlk
            · simp only [if_neg e]
              exact ⟨fun j hj => by rw [set_block (hgd q i hq hlt e)]; exact (hI q hq).at_ j hj, fun j hj => by rw [World.frozen?_setCell]; exact (hI q hq).fr j hj⟩
          · simp only [if_neg (show ¬ q = i by omega)]; exact hX q hq j hj
          · simp only [if_true]
            unfold updI
            by_cases e : j = k
            · subst e; rw [if_pos rfl]
            · rw [if_neg e]; exact hXk j (by omega)
        · have hkn : k = n := by omega
          subst hkn
          repeat (first | go_values | go_skip | go_guarded | go_step | go_upon | go_back | dsimp only)
          refine ⟨⟨i + 1, by omega, by first | go_num | rfl, hB, hal, X, hI, fun q hq j hj => ?_⟩, by simp [intOf]; omega⟩
          rcases Nat.lt_or_ge q i with h | h
          · exact hX q h j hj
          · have e : q = i := by omega
            subst e; exact hXk j hj
    · have hi2 : i = 2 := by omega
      subst hi2
      obtain ⟨w1, rfl⟩ : ∃ w1, w1 = wr := ⟨_, rfl⟩
      simp only [show ((2 : Nat) : Int) = 2 from rfl]
      repeat (first | go_values | go_skip | go_guarded | go_step | go_upon | go_back | dsimp only)
      go_loopw [6, 5] (fun c v wr => ∃ i : Nat, i ≤ 2 ∧ c = .int .i64 i ∧ Bel w1 wr ∧ ∃ R, OwnR 1 w1.heap.size wr v i R ∧ (i = 0 → v = .slice none 0 0) ∧ ∀ q u, R[q]? = some u → ∃ h c9, u = .slice (some ⟨h, 0, none⟩) (n + 10) c9 ∧ n + 10 ≤ c9 ∧ h < wr.heap.size ∧ (∀ gg cp, v = .slice (some ⟨gg, 0, none⟩) i cp → h ≠ gg) ∧ Rw wr h 0 (upL q n ++ dnL q 10)) (fun c _ _ => 2 - (intOf c).toNat)
      case atStart => exact ⟨0, by omega, rfl, bl_refl _, [], OwnR.nil _ _ _, fun _ => rfl, fun q u h => by simp at h⟩
      case round =>
        clear hi hlt
        obtain ⟨i, hi, rfl, hB1, R, hO, hO0, hR⟩ := hrel
        by_cases hlt : i < 2
        · have hiI : (i : Int) < 2 := by omega
          have hai := keep hB1 (hal i hlt)
          have hup : Rw wr (g i) 0 (upL i n) := fun j u hj => by
            have hj' : j < n := by have := (List.getElem?_eq_some_iff.1 hj).1; rwa [upL_len] at this
            rw [upL_at hj'] at hj
            cases hj
            rw [Nat.zero_add, ← hX i hlt j hj']
            exact keep hB1 ((hI i hlt).at_ j hj')
          obtain ⟨w2, rfl⟩ : ∃ w2, w2 = wr := ⟨_, rfl⟩
          repeat (first | go_values | go_skip | go_guarded | go_step | go_upon | go_back | dsimp only)
          go_loopw [8, 7] (fun c v wr => ∃ k : Nat, k ≤ 10 ∧ c = .int .i64 k ∧ Bel w2 wr ∧ ((k = 0 ∧ v = .slice (sv i) n n) ∨ (0 < k ∧ OwnR 1 w2.heap.size wr v (n + k) (upL i n ++ dnL i k)))) (fun c _ _ => 10 - (intOf c).toNat)
          case atStart => exact ⟨0, by omega, rfl, bl_refl _, .inl ⟨rfl, rfl⟩⟩
          case round =>
            obtain ⟨k, hk, rfl, hB2, hv⟩ := hrel
            by_cases hlk : k < 10
            · have hkI : (k : Int) < 10 := by omega
              have hNb : Bel wr (wr.alloc (.cells #[.int .i64 (-100 * (i : Int) - (k : Int))] 3)) := bl_alloc (bl_refl _) _ _
              have hN : Rw (wr.alloc (.cells #[.int .i64 (-100 * (i : Int) - (k : Int))] 3)) wr.heap.size 0 [.int .i64 (-100 * (i : Int) - (k : Int))] := rng_new wr [.int .i64 (-100 * (i : Int) - (k : Int))] 3
              have h1c : ∀ u ∈ [Value.int .i64 (-100 * (i : Int) - (k : Int))], u.oneCell' = true := by intro u hu; simp only [List.mem_singleton] at hu; subst hu; rfl
              have hLs : (upL i n ++ dnL i k) ++ [.int .i64 (-100 * (i : Int) - (k : Int))] = upL i n ++ dnL i (k + 1) := by rw [dnL_succ, List.append_assoc]; rfl
              obtain ⟨v', w', hr1, hr2, hr3⟩ : ∃ v' w', (Builtin.append_ #[63, 63] 63 #[u7, .slice (some ⟨wr.heap.size, 0, none⟩) 1 1]).run Try.prog (wr.alloc (.cells #[.int .i64 (-100 * (i : Int) - (k : Int))] 3)) = .ok v' w' ∧ OwnR 1 w2.heap.size w' v' (n + (k + 1)) (upL i n ++ dnL i (k + 1)) ∧ Bel w2 w' := by
                rcases hv with ⟨h0, rfl⟩ | ⟨_, hv⟩
                · obtain ⟨v', w', h1, h2, h3⟩ := run_appG (w := (wr.alloc (.cells #[.int .i64 (-100 * (i : Int) - (k : Int))] 3))) wr.heap.size (hsv i hlt) (upL_len i n) (hup.bel (bl_trans hB2 hNb)) rfl hN h1c (by omega)
                  rw [← hLs, show dnL i k = [] by rw [h0]; rfl, List.append_nil, show n + (k + 1) = n + 1 by omega]
                  exact ⟨v', w', h1, own_base h2 (by have := (bl_trans hB2 hNb).size; omega), bl_trans (bl_trans hB2 hNb) h3⟩
                · obtain ⟨v', w', h1, h2, _, h4⟩ := run_appR (P := Try.prog) 63 63 3 Try.underlying63 info_int rfl wr.heap.size 0 1 1 (hv.bel hNb) rfl hN h1c (by decide) (by have := (bl_trans hB2 hNb).size; omega) (by unfold maxLen; omega) (by omega)
                  rw [hLs] at h2
                  exact ⟨v', w', h1, h2, h4 w2 (bl_trans hB2 hNb) (Nat.le_refl _)⟩
              repeat (first | (at_builtin; refine wpList_runX 63 rfl (.tmp 52) (.tmp 57) rfl rfl rfl hr1 ?_) | go_values | go_skip | go_guarded | go_step | go_upon | go_back | dsimp only)
              exact ⟨⟨k + 1, by omega, by first | go_num | rfl, hr3, .inr ⟨by omega, hr2⟩⟩, by simp [intOf]; omega⟩
            · have hkn : k = 10 := by omega
              subst hkn
              rcases hv with ⟨h, _⟩ | ⟨_, hv⟩
              · omega
              obtain ⟨h, cp, rfl, hh1, hh2, hh3, hh4, hh5⟩ := own_at hv (by omega)
              have hMb : Bel wr (wr.alloc (.cells #[.slice (some ⟨h, 0, none⟩) (n + 10) cp] 63)) := bl_alloc (bl_refl _) _ _
              have hM : Rw (wr.alloc (.cells #[.slice (some ⟨h, 0, none⟩) (n + 10) cp] 63)) wr.heap.size 0 [.slice (some ⟨h, 0, none⟩) (n + 10) cp] := rng_new wr [.slice (some ⟨h, 0, none⟩) (n + 10) cp] 63
              obtain ⟨v', w', hr1, hr2, ⟨g', cap', rfl, hg'⟩, hr4, hr5, _⟩ := run_appS (P := Try.prog) 43 43 63 Try.underlying43 info_sl rfl wr.heap.size 0 1 1 (hO.bel (bl_trans hB2 hMb)) (N := [.slice (some ⟨h, 0, none⟩) (n + 10) cp]) rfl hM (by intro u hu; simp only [List.mem_singleton] at hu; subst hu; rfl) (by decide) (by have := (bl_trans (bl_trans hB1 hB2) hMb).size; omega) (by unfold maxLen; omega) (by omega)
              have gl : ∀ gg cp, u5 = .slice (some ⟨gg, 0, none⟩) i cp → gg < w2.heap.size := fun gg cp hv9 => by
                rcases Nat.eq_zero_or_pos i with h0 | h0
                · rw [hO0 h0] at hv9; cases hv9
                · obtain ⟨h9, cp9, e9, _, _, _, h10, _⟩ := own_at hO h0
                  rw [hv9] at e9
                  injection e9 with e10
                  injection e10 with e11
                  injection e11 with e12
                  subst e12
                  exact h10
              repeat (first | (at_builtin; refine wpList_runX 43 rfl (.tmp 59) (.tmp 61) rfl rfl rfl hr1 ?_) | go_values | go_skip | go_guarded | go_step | go_upon | go_back | dsimp only)
              refine ⟨⟨i + 1, by omega, by first | go_num | rfl, hr4 w1 (bl_trans (bl_trans hB1 hB2) hMb) (Nat.le_refl _), _, hr2, fun h0 => by omega, fun q u hq => ?_⟩, by simp [intOf]; omega⟩
              have hlenR : R.length = i := by have := hO.1; omega
              have hz2 : wr.heap.size < (wr.alloc (.cells #[.slice (some ⟨h, 0, none⟩) (n + 10) cp] 63)).heap.size := by rw [World.size_alloc]; omega
              have hzs := hB2.size
              have other : ∀ (hb : Nat) (L : List Value), hb < (wr.alloc (.cells #[.slice (some ⟨h, 0, none⟩) (n + 10) cp] 63)).heap.size → (∀ gg cp, u5 = .slice (some ⟨gg, 0, none⟩) i cp → hb ≠ gg) → Rw (wr.alloc (.cells #[.slice (some ⟨h, 0, none⟩) (n + 10) cp] 63)) hb 0 L → Rw w' hb 0 L := fun hb L h1 h2 h3 j x hx => by rw [hr5.1 hb _ h1 h2]; exact h3 j x hx
              rcases Nat.lt_or_ge q i with hqi | hqi
              · rw [List.getElem?_append_left (by omega)] at hq
                obtain ⟨h9, c9, e9, f1, f2, f3, f4⟩ := hR q u hq
                refine ⟨h9, c9, e9, f1, by have := hr5.2; omega, fun gg cp hv9 => ?_, other h9 _ (by omega) f3 (f4.bel (bl_trans hB2 hMb))⟩
                injection hv9 with e10
                injection e10 with e11
                injection e11 with e12
                subst e12
                rcases hg' with h | ⟨cp9, h⟩
                · omega
                · exact f3 _ _ h
              · have e : q = i := by have := (List.getElem?_eq_some_iff.1 hq).1; rw [List.length_append] at this; simp at this; omega
                subst e
                rw [List.getElem?_append_right (by omega), hlenR, Nat.sub_self] at hq
                cases hq
                refine ⟨h, cp, rfl, hh2, by have := hr5.2; omega, fun gg cp hv9 => ?_, other h _ (by omega) (fun gg cp hv9 => by have := gl gg cp hv9; omega) (hh5.bel hMb)⟩
                injection hv9 with e10
                injection e10 with e11
                injection e11 with e12
                subst e12
                rcases hg' with h9 | ⟨cp9, h9⟩
                · omega
                · have := gl _ _ h9; omega
        · have hi2 : i = 2 := by omega
          subst hi2
          obtain ⟨w3, rfl⟩ : ∃ w3, w3 = wr := ⟨_, rfl⟩
          obtain ⟨gg, cp, rfl, hg1, hg2, hg3, hg4, hg5⟩ := own_at hO (by omega)
          have hRl : R.length = 2 := by have := hO.1; omega
          have hgr : ∀ q, q < 2 → ∃ h c9, n + 10 ≤ c9 ∧ w3.cell? ⟨gg, q, none⟩ = some (.slice (some ⟨h, 0, none⟩) (n + 10) c9) ∧ ∀ k, k < 10 → w3.cell? ⟨h, n + k, none⟩ = some (.int .i64 (-100 * (q : Int) - (k : Int))) := fun q hq => by
            obtain ⟨h9, c9, e9, f1, f2, f3, f4⟩ := hR q (R[q]'(by omega)) (List.getElem?_eq_getElem _)
            refine ⟨h9, c9, f1, ?_, fun k hk => ?_⟩
            · have h8 := hg5 q _ (List.getElem?_eq_getElem (show q < R.length by omega))
              rw [Nat.zero_add, e9] at h8
              exact h8
            · have h8 := f4 (n + k) (.int .i64 (dnW q k)) (by rw [List.getElem?_append_right (by rw [upL_len]; omega), upL_len, Nat.add_sub_cancel_left]; exact dnL_at hk)
              rw [Nat.zero_add] at h8
              exact h8
          have hIu : ∀ q, q < 2 → ∀ k, k < n → w3.cell? ⟨g q, k, none⟩ = some (.int .i64 (100 * (q : Int) + (k : Int))) := fun q hq k hk => by
            have h8 := keep hB1 ((hI q hq).at_ k hk)
            rw [hX q hq k hk] at h8
            exact h8
          have hal3 : ∀ q, q < 2 → w3.cell? ⟨ab, q, none⟩ = some (.slice (sv q) n n) := fun q hq => keep hB1 (hal q hq)
          have hB3 := bl_trans hB hB1
          clear hR hO hO0 hg5 hI hX hal hRl
          repeat (first | go_values | go_skip | go_guarded | go_step | go_upon | go_back | dsimp only)
          go_loopw [9] (fun c wr => ∃ i : Nat, i ≤ 2 ∧ c = .int .i64 i ∧ Bel w3 wr) (fun c _ => 2 - (intOf c).toNat)
          case atStart => exact ⟨0, by omega, rfl, bl_refl _⟩
          case round =>
            clear hi hlt
            obtain ⟨i, hi, rfl, hB4⟩ := hrel
            by_cases hlt : i < 2
            · have hiI : (i : Int) < 2 := by omega
              have hai := keep hB4 (hal3 i hlt)
              obtain ⟨h9, c9, f1, f2, f3⟩ := hgr i hlt
              obtain ⟨w4, rfl⟩ : ∃ w4, w4 = wr := ⟨_, rfl⟩
              repeat (first | go_values | go_skip | go_guarded | go_step | go_upon | go_back | dsimp only)
              go_loopw [11] (fun c wr => ∃ k : Nat, k ≤ n ∧ c = .int .i64 k ∧ Bel w4 wr) (fun c _ => n - (intOf c).toNat)
              case atStart => exact ⟨0, by omega, rfl, bl_refl _⟩
              case round =>
                obtain ⟨k, hk, rfl, hB5⟩ := hrel
                have hai5 := keep hB5 hai
                by_cases hlk : k < n
                · have hkI : (k : Int) < (n : Int) := by omega
                  have es : sv i = some ⟨g i, 0, none⟩ := by rcases hsv i hlt with h | h; omega; exact h
                  rw [es] at hai5
                  have ka := keep hB5 (keep hB4 (hIu i hlt k hlk))
                  repeat (first | go_values | go_skip | go_guarded | go_step | go_upon | go_back | dsimp only)
                  exact ⟨⟨k + 1, by omega, by first | go_num | rfl, hB5⟩, by simp [intOf]; omega⟩
                · have hkn : k = n := by omega
                  subst hkn
                  obtain ⟨w5, rfl⟩ : ∃ w5, w5 = wr := ⟨_, rfl⟩
                  have hgi := keep hB5 (keep hB4 f2)
                  repeat (first | go_values | go_skip | go_guarded | go_step | go_upon | go_back | dsimp only)
                  go_loopw [12] (fun c wr => ∃ z : Nat, z ≤ 10 ∧ c = .int .i64 z ∧ Bel w5 wr) (fun c _ => 10 - (intOf c).toNat)
                  case atStart => exact ⟨0, by omega, rfl, bl_refl _⟩
                  case round =>
                    obtain ⟨z, hz, rfl, hB6⟩ := hrel
                    by_cases hlz : z < 10
                    · have hzI : (z : Int) < 10 := by omega
                      have hg6 := keep hB6 hgi
                      have kz := keep hB6 (keep hB5 (keep hB4 (f3 z hlz)))
                      have hb1 : ((k : Int) + (z : Int)) < ((k + 10 : Nat) : Int) := by omega
                      have hb2 : k + z < k + 10 := by omega
                      repeat (first | go_values | go_skip | go_guarded | go_step | go_upon | go_back | dsimp only)
                      exact ⟨⟨z + 1, by omega, by first | go_num | rfl, hB6⟩, by simp [intOf]; omega⟩
                    · have hzn : z = 10 := by omega
                      subst hzn
                      repeat (first | go_values | go_skip | go_guarded | go_step | go_upon | go_back | dsimp only)
                      exact ⟨⟨i + 1, by omega, by first | go_num | rfl, bl_trans (bl_trans hB4 hB5) hB6⟩, by simp [intOf]; omega⟩
            · have hi2 : i = 2 := by omega
              subst hi2
              repeat (first | go_values | go_skip | go_guarded | go_step | go_upon | go_back | dsimp only)
              go_ret
              exact ⟨rfl, bl_trans hB3 hB4⟩

end Go.Proofs.Ytmphpmkhddnfdaa
