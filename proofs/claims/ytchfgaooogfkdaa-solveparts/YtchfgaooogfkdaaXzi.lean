/-
  What each function of package poly answers, and what the reference of its chapter answers: one contract a function, for every float: the answer stands in the relation of its formula to what was given; of the memory that was there nothing has turned.
-/
import Derived.Test.YtchfgaooogfkdaaVec
import Derived.Test.YtchfgaooogfkdaaXzh
import Derived.Test.YtchfgaooogfkdaaXzb
import Derived.Below
import Derived.OwnWalk
import Derived.Laws.AppendOwn
import Derived.Lib.SliceRun
import Derived.Laws.MakeOwn
import Derived.WalkKit
import Derived.WalkLawsBesides
import Derived.WalkSpells
import Derived.ProofKit
import Derived.OpenShut
import Derived.Deep.RegionHeld3
namespace Go.Proofs.Ytchfgaooogfkdaa
open Go.ChangeShapes Go.WideShapes Go.ChangeAt Go.RowKit
set_option linter.unusedVariables false
set_option linter.unusedSimpArgs false


theorem own_ints9 {base : Nat} {w : World} {v : Value} {n : Nat} {L : List Nat} (hn : L.length = n) (h : OwnR 1 base w v n (intsV L)) : ∃ g c sl, v = .slice sl n c ∧ (n = 0 ∨ sl = some ⟨g, 0, none⟩) ∧ n ≤ c ∧ c ≤ maxLen ∧ (n = 0 ∨ base ≤ g) ∧ ∀ i, i < n → w.cell? ⟨g, i, none⟩ = some (.int .i64 (LN L i : Int)) := by
  rcases h.2 with ⟨rfl, rfl⟩ | ⟨g, c, rfl, h1, h2, h3, h4, _⟩
  · exact ⟨0, 0, none, rfl, .inl rfl, Nat.le_refl _, Nat.zero_le _, .inl rfl, fun i hi => by omega⟩
  · refine ⟨g, c, some ⟨g, 0, none⟩, rfl, .inr rfl, h2, h3, .inr h1, fun i hi => ?_⟩
    have hiL : i < L.length := by omega
    have h5 := h4 i (.int .i64 (LN L i : Int)) (by unfold intsV; rw [List.getElem?_map, List.getElem?_eq_getElem hiL, LN_get hiL]; rfl)
    rwa [Nat.zero_add] at h5
theorem own_other {sz base : Nat} {w w' : World} {v : Value} {n : Nat} {R : List Value} (h : OwnR sz base w v n R) (hc : ∀ g cp, v = .slice (some ⟨g, 0, none⟩) n cp → ∀ o, w'.cell? ⟨g, o, none⟩ = w.cell? ⟨g, o, none⟩) (hf : ∀ a, w'.frozen? a = w.frozen? a) : OwnR sz base w' v n R := by
  refine ⟨h.1, ?_⟩
  rcases h.2 with h | ⟨g, cap, e, h1, h2, h3, h4, h5, h6⟩
  · exact .inl h
  · exact .inr ⟨g, cap, e, h1, h2, h3, fun j u hj => by rw [hc g cap e]; exact h4 j u hj, fun j hj => by rw [hc g cap e]; exact h5 j hj, fun o => by rw [hf]; exact h6 o⟩
theorem own_lt {sz base : Nat} {w : World} {g cp n : Nat} {R : List Value} (h : OwnR sz base w (.slice (some ⟨g, 0, none⟩) n cp) n R) (hn : 0 < n) (hs : 0 < sz) : g < w.heap.size ∧ base ≤ g := by
  rcases h.2 with ⟨e, _⟩ | ⟨g', cap, e, h1, h2, h3, h4, h5, h6⟩
  · cases e
  · injection e with e1 e2 e3
    injection e1 with e4
    injection e4 with e5
    subst e3 e5
    obtain ⟨x, hx⟩ := Option.isSome_iff_exists.1 (h5 0 (Nat.mul_pos (by omega) hs))
    exact ⟨World.block_lt_of_cell? w _ hx, h1⟩
/-- a list of rows and one of numbers that grow together -/
structure TwoO (B : Nat) (w : World) (vo vn : Value) (c : Nat) (Ro Rn : List Value) : Prop where
  o : OwnR 14 B w vo c Ro
  n : OwnR 1 B w vn c Rn
  z : c = 0 → vo = .slice none 0 0 ∧ vn = .slice none 0 0
  d : ∀ go co gn cn, vo = .slice (some ⟨go, 0, none⟩) c co → vn = .slice (some ⟨gn, 0, none⟩) c cn → go ≠ gn
theorem TwoO.bel {B : Nat} {w w' : World} {vo vn : Value} {c : Nat} {Ro Rn : List Value} (h : TwoO B w vo vn c Ro Rn) (g : Bel w w') : TwoO B w' vo vn c Ro Rn := ⟨h.o.bel g, h.n.bel g, h.z, h.d⟩
set_option maxRecDepth 100000 in
set_option maxHeartbeats 4000000 in
theorem two_app {B : Nat} {w0 wr : World} {vo vn : Value} {c : Nat} {Ro Rn : List Value} (R : RD) (x : Int) (h : TwoO B wr vo vn c Ro Rn) (h0 : Bel w0 wr) (hB : B = w0.heap.size) (hc : c ≤ 1048576) : ∃ vo' w1 vn' w2, (Builtin.append_ #[22, 22] 22 #[vo, .slice (some ⟨wr.heap.size, 0, none⟩) 1 1]).run Try.prog (wr.alloc (.cells #[.int .i64 R.ra, .int .i64 R.rb, .float .f64 R.r2, .float .f64 R.r3, .float .f64 R.r4, .float .f64 R.r5, .float .f64 R.r6, .float .f64 R.r7, .float .f64 R.r8, .float .f64 R.r9, .float .f64 R.r10, .float .f64 R.r11, .int .i64 R.ro, .float .f64 R.r13] 56)) = .ok vo' w1 ∧ (Builtin.append_ #[51, 51] 51 #[vn, .slice (some ⟨w1.heap.size, 0, none⟩) 1 1]).run Try.prog (w1.alloc (.cells #[.int .i64 x] 3)) = .ok vn' w2 ∧ TwoO B w2 vo' vn' (c + 1) (Ro ++ rc R) (Rn ++ [.int .i64 x]) ∧ Bel w0 w2 := by
  have bA : Bel wr (wr.alloc (.cells #[.int .i64 R.ra, .int .i64 R.rb, .float .f64 R.r2, .float .f64 R.r3, .float .f64 R.r4, .float .f64 R.r5, .float .f64 R.r6, .float .f64 R.r7, .float .f64 R.r8, .float .f64 R.r9, .float .f64 R.r10, .float .f64 R.r11, .int .i64 R.ro, .float .f64 R.r13] 56)) := bl_alloc (bl_refl _) _ _
  have sA := (bl_trans h0 bA).size
  have zA : wr.heap.size < (wr.alloc (.cells #[.int .i64 R.ra, .int .i64 R.rb, .float .f64 R.r2, .float .f64 R.r3, .float .f64 R.r4, .float .f64 R.r5, .float .f64 R.r6, .float .f64 R.r7, .float .f64 R.r8, .float .f64 R.r9, .float .f64 R.r10, .float .f64 R.r11, .int .i64 R.ro, .float .f64 R.r13] 56)).heap.size := by rw [World.size_alloc]; omega
  obtain ⟨vo', w1, r1, o1, ⟨g', cap', rfl, hg'⟩, b1, ot1, _⟩ := run_appS (P := Try.prog) 22 22 56 Try.underlying22 info_row rfl wr.heap.size 0 1 1 (h.o.bel bA) (N := rc R) rfl (rng_new wr (rc R) 56) (by intro u hu; unfold rc at hu; simp only [List.mem_cons, List.not_mem_nil, or_false] at hu; rcases hu with rfl | rfl | rfl | rfl | rfl | rfl | rfl | rfl | rfl | rfl | rfl | rfl | rfl | rfl <;> rfl) (by decide) (by omega) (by unfold maxLen; omega) (by omega)
  have B1 := b1 w0 (bl_trans h0 bA) (by omega)
  have f1 : ∀ a, w1.frozen? a = (wr.alloc (.cells #[.int .i64 R.ra, .int .i64 R.rb, .float .f64 R.r2, .float .f64 R.r3, .float .f64 R.r4, .float .f64 R.r5, .float .f64 R.r6, .float .f64 R.r7, .float .f64 R.r8, .float .f64 R.r9, .float .f64 R.r10, .float .f64 R.r11, .int .i64 R.ro, .float .f64 R.r13] 56)).frozen? a := fun a => (B1.2 a).trans ((bl_trans h0 bA).2 a).symm
  have gnl : ∀ gn cn, vn = .slice (some ⟨gn, 0, none⟩) c cn → gn < wr.heap.size := fun gn cn e => by
    rcases Nat.eq_zero_or_pos c with hz | hp
    · rw [(h.z hz).2] at e; cases e
    · exact (own_lt (e ▸ h.n) hp (by decide)).1
  have n1 : OwnR 1 B w1 vn c Rn := own_other (h.n.bel bA) (fun g cp e o => ot1.1 g o (by have := gnl g cp e; omega) (fun gg cpp e2 => (h.d gg cpp g cp e2 e).symm)) f1
  have g1 := own_lt o1 (by omega) (by decide)
  have bB : Bel w1 (w1.alloc (.cells #[.int .i64 x] 3)) := bl_alloc (bl_refl _) _ _
  have zB : w1.heap.size < (w1.alloc (.cells #[.int .i64 x] 3)).heap.size := by rw [World.size_alloc]; omega
  have z1 := ot1.2
  obtain ⟨vn', w2, r2, o2, ⟨g2, cap2, rfl, hg2⟩, b2, ot2, _⟩ := run_appS (P := Try.prog) 51 51 3 Try.underlying51 info_int rfl w1.heap.size 0 1 1 (n1.bel bB) (N := [.int .i64 x]) rfl (rng_new w1 [.int .i64 x] 3) (by intro u hu; simp only [List.mem_singleton] at hu; subst hu; rfl) (by decide) (by have := (bl_trans B1 bB).size; omega) (by unfold maxLen; omega) (by omega)
  have B2 := b2 w0 (bl_trans B1 bB) (by omega)
  have f2 : ∀ a, w2.frozen? a = (w1.alloc (.cells #[.int .i64 x] 3)).frozen? a := fun a => (B2.2 a).trans ((bl_trans B1 bB).2 a).symm
  have gne : ∀ gn cn, vn = .slice (some ⟨gn, 0, none⟩) c cn → g' ≠ gn := fun gn cn e => by
    rcases hg' with hg | ⟨cp, hg⟩
    · have := gnl gn cn e; omega
    · exact h.d g' cp gn cn hg e
  refine ⟨_, w1, _, w2, r1, r2, ⟨own_other (o1.bel bB) (fun g cp e o => ?_) f2, o2, fun hz => by omega, fun go co gn cn e1 e2 => ?_⟩, B2⟩
  · injection e with e1
    injection e1 with e2
    injection e2 with e3
    subst e3
    exact ot2.1 _ o (by omega) (fun gg cpp e4 => gne gg cpp e4)
  · injection e1 with e3
    injection e3 with e4
    injection e4 with e5
    injection e2 with e6
    injection e6 with e7
    injection e7 with e8
    subst e5 e8
    rcases hg2 with hg | ⟨cp, hg⟩
    · omega
    · exact gne _ cp hg
theorem anyN_or (p q : Nat → Bool) : ∀ n, anyN (fun i => p i || q i) n = (anyN p n || anyN q n)
  | 0 => rfl
  | n + 1 => by unfold anyN; rw [anyN_or p q n]; cases anyN p n <;> cases anyN q n <;> cases p n <;> cases q n <;> rfl
theorem of_eq {Q : Nat → RD} {X : Nat → Int} {inn q : Nat} (h1 : 0 ≤ (Q q).ra) (h2 : 0 ≤ (Q q).rb) : anyN (fun z => decide ((Q q).ra = X z) || decide ((Q q).rb = X z)) inn = ofP Q X inn q := by
  rw [anyN_or (fun z => decide ((Q q).ra = X z)) (fun z => decide ((Q q).rb = X z))]
  unfold ofP askF
  congr 1
  · congr 1
    funext z
    rw [Bool.eq_iff_iff]; simp; omega
  · congr 1
    funext z
    rw [Bool.eq_iff_iff]; simp; omega
set_option maxRecDepth 100000 in
set_option maxHeartbeats 4000000 in
theorem ronly_many (rb ro rn rc_ : Nat) (rs : Option Addr) (Q : Nat → RD) (ib io inn ic_ : Nat) (is_ : Option Addr) (X : Nat → Int) (w : World) (h : 1048576 < rn ∨ 1024 < inn) : Calls Try.prog 29 #[.slice rs rn rc_, .slice is_ inn ic_] w fun e w' => e = .returned (.tuple #[.slice none 0 0, .slice none 0 0, .int .i64 4]) ∧ Bel w w' := by
  rcases (show (1048576 : Int) < rn ∨ (¬ (1048576 : Int) < rn ∧ (1024 : Int) < inn) by omega) with h1 | ⟨h1, h2⟩
  all_goals
    go_enter Try.func29, Try.ntmps29
    repeat (first | go_values | go_skip | go_guarded | go_step | go_upon | go_back | dsimp only)
    refine bodyPost_ret (v := .tuple #[.slice none 0 0, .slice none 0 0, .int .i64 4]) (by kernel_rfl) rfl ?_
    exact ⟨rfl, bl_refl _⟩

theorem two_open {B : Nat} {w : World} {vo vn : Value} {c : Nat} {Qx : Nat → RD} {L : List Nat} (hL : L.length = c) (h : TwoO B w vo vn c (rowsL Qx c) (intsV L)) : ∃ go co so_ gn cn sn_, vo = .slice so_ c co ∧ vn = .slice sn_ c cn ∧ (c = 0 ∨ so_ = some ⟨go, 0, none⟩) ∧ (c = 0 ∨ sn_ = some ⟨gn, 0, none⟩) ∧ c ≤ co ∧ co ≤ maxLen ∧ c ≤ cn ∧ cn ≤ maxLen ∧ Rws w go 0 c Qx ∧ (∀ i, i < c → w.cell? ⟨gn, i, none⟩ = some (.int .i64 (LN L i : Int))) ∧ B ≤ go ∧ (c = 0 ∨ B ≤ gn) ∧ (0 < c → go ≠ gn) ∧ (0 < c → ∀ o, w.frozen? ⟨go, o, none⟩ = false) := by
  obtain ⟨gn, cn, sn_, rfl, n1, n2, n3, n5, n4⟩ := own_ints9 hL h.n
  rcases h.o.2 with ⟨e, hz⟩ | ⟨go, co, e, h1, h2, h3, h4, h5, h6⟩
  · subst e hz
    exact ⟨B, 0, none, gn, cn, sn_, rfl, rfl, .inl rfl, .inl rfl, Nat.le_refl _, Nat.zero_le _, n2, n3, fun i hi => by omega, n4, Nat.le_refl _, n5, fun h => by omega, fun h => by omega⟩
  · subst e
    refine ⟨go, co, some ⟨go, 0, none⟩, gn, cn, sn_, rfl, rfl, .inr rfl, n1, h2, h3, n2, n3, rowsL_at (N := []) (by rwa [List.append_nil]), n4, h1, n5, fun hc => ?_, fun _ => h6⟩
    have e2 : sn_ = some ⟨gn, 0, none⟩ := by rcases n1 with h | h; omega; exact h
    subst e2
    exact h.d go co gn cn rfl rfl
set_option maxRecDepth 100000 in
set_option maxHeartbeats 16000000 in
theorem ronly_ch (rb ro rn rc_ : Nat) (rs : Option Addr) (Q : Nat → RD) (ib io inn ic_ : Nat) (is_ : Option Addr) (X : Nat → Int) (w : World) (hrs : rn = 0 ∨ rs = some ⟨rb, ro, none⟩) (hrc : rn ≤ rc_) (hrm : rc_ ≤ maxLen) (hr : Rws w rb ro rn Q) (or_ : ∀ i, i < rn → rok (Q i)) (his : inn = 0 ∨ is_ = some ⟨ib, io, none⟩) (hic : inn ≤ ic_) (him : ic_ ≤ maxLen) (hi_ : Ints w ib io inn X) (hl1 : rn ≤ 1048576) (hl2 : inn ≤ 1024) : Calls Try.prog 29 #[.slice rs rn rc_, .slice is_ inn ic_] w fun e w' => (crB Q rn 1024 rn = false ∧ e = .returned (.tuple #[.slice none 0 0, .slice none 0 0, .int .i64 200]) ∧ Bel w w') ∨ (crB Q rn 1024 rn = true ∧ ∃ go co so_ gn cn sn_, ((pickN (ofP Q X inn) rn).length = 0 ∨ so_ = some ⟨go, 0, none⟩) ∧ ((pickN (ofP Q X inn) rn).length = 0 ∨ sn_ = some ⟨gn, 0, none⟩) ∧ (pickN (ofP Q X inn) rn).length ≤ co ∧ (pickN (ofP Q X inn) rn).length ≤ cn ∧ w.heap.size ≤ go ∧ ((pickN (ofP Q X inn) rn).length = 0 ∨ w.heap.size ≤ gn) ∧ Rws w' go 0 (pickN (ofP Q X inn) rn).length (onlyR Q (pickN (ofP Q X inn) rn)) ∧ (∀ i, i < (pickN (ofP Q X inn) rn).length → w'.cell? ⟨gn, i, none⟩ = some (.int .i64 (LN (pickN (ofP Q X inn) rn) i : Int))) ∧ e = .returned (.tuple #[.slice so_ (pickN (ofP Q X inn) rn).length co, .slice sn_ (pickN (ofP Q X inn) rn).length cn, .int .i64 0]) ∧ Bel w w') := by
  have h1 : ¬ (1048576 : Int) < rn := by omega
  have h2 : ¬ (1024 : Int) < inn := by omega
  unfold maxLen at hrm him
  go_enter Try.func29, Try.ntmps29
  repeat (first | go_values | go_skip | go_guarded | go_step | go_upon | go_back | dsimp only)
  go_loopw [7] (fun i wr => ∃ k : Nat, k ≤ rn ∧ i = .int .i64 k ∧ Bel w wr ∧ ∀ j, j < k → chB (Q j) rn 1024 = true) (fun i _ => rn - (intOf i).toNat)
  case atStart => exact ⟨0, by omega, rfl, bl_refl _, fun j hj => by omega⟩
  case round =>
    obtain ⟨k, hk, rfl, hB, hq⟩ := hrel
    by_cases hlt : k < rn
    · have e9 : rs = some ⟨rb, ro, none⟩ := by rcases hrs with h | h; omega; exact h
      subst e9
      have hkI : (k : Int) < (rn : Int) := by omega
      have hld : wr.rangeAt rb (ro + k * 14) [.int .i64 (Q k).ra, .int .i64 (Q k).rb, .float .f64 (Q k).r2, .float .f64 (Q k).r3, .float .f64 (Q k).r4, .float .f64 (Q k).r5, .float .f64 (Q k).r6, .float .f64 (Q k).r7, .float .f64 (Q k).r8, .float .f64 (Q k).r9, .float .f64 (Q k).r10, .float .f64 (Q k).r11, .int .i64 (Q k).ro, .float .f64 (Q k).r13] := (hr.bel hB) k hlt
      cases hc : chB (Q k) rn 1024
      · repeat (first | ((with_reducible show Oper.wp _ { dst := _, op := Op.load 56 _, type := _, pos := _, after := _, guard := _ } _ _ _ _); refine wp_load_mid (P := Try.prog) 56 _ rfl _ _ rfl [.int .i64 (Q k).ra, .int .i64 (Q k).rb, .float .f64 (Q k).r2, .float .f64 (Q k).r3, .float .f64 (Q k).r4, .float .f64 (Q k).r5, .float .f64 (Q k).r6, .float .f64 (Q k).r7, .float .f64 (Q k).r8, .float .f64 (Q k).r9, .float .f64 (Q k).r10, .float .f64 (Q k).r11, .int .i64 (Q k).ro, .float .f64 (Q k).r13] _ hld Try.underlying56 rfl (by kernel_rfl) ?_; simp only [go_sem]) | (go_at_call 65; (with_reducible refine (rcheck_w (Q k) rn 1024 _).mono ?_); rintro e w' ⟨rfl, hb⟩; rw [hc]) | go_values | go_skip | go_guarded | go_step | go_upon | go_back | dsimp only)
        refine bodyPost_ret (v := .tuple #[.slice none 0 0, .slice none 0 0, .int .i64 200]) (by kernel_rfl) rfl ?_
        exact .inl ⟨crB_no hc hlt, rfl, bl_trans hB hb⟩
      · repeat (first | ((with_reducible show Oper.wp _ { dst := _, op := Op.load 56 _, type := _, pos := _, after := _, guard := _ } _ _ _ _); refine wp_load_mid (P := Try.prog) 56 _ rfl _ _ rfl [.int .i64 (Q k).ra, .int .i64 (Q k).rb, .float .f64 (Q k).r2, .float .f64 (Q k).r3, .float .f64 (Q k).r4, .float .f64 (Q k).r5, .float .f64 (Q k).r6, .float .f64 (Q k).r7, .float .f64 (Q k).r8, .float .f64 (Q k).r9, .float .f64 (Q k).r10, .float .f64 (Q k).r11, .int .i64 (Q k).ro, .float .f64 (Q k).r13] _ hld Try.underlying56 rfl (by kernel_rfl) ?_; simp only [go_sem]) | (go_at_call 65; (with_reducible refine (rcheck_w (Q k) rn 1024 _).mono ?_); rintro e w' ⟨rfl, hb⟩; rw [hc]) | go_values | go_skip | go_guarded | go_step | go_upon | go_back | dsimp only)
        refine ⟨⟨k + 1, by omega, by go_num, bl_trans hB hb, fun j hj => ?_⟩, by simp [intOf]; omega⟩
        rcases Nat.lt_or_ge j k with h | h
        · exact hq j h
        · have e : j = k := by omega
          subst e; exact hc
    · have hkn : rn = k := by omega
      subst hkn
      obtain ⟨w1, rfl⟩ : ∃ w1, w1 = wr := ⟨_, rfl⟩
      repeat (first | go_values | go_skip | go_guarded | go_step | go_upon | go_back | dsimp only)
      go_loopw [10, 8, 9] (fun i vo vn wr => ∃ q : Nat, q ≤ rn ∧ i = .int .i64 q ∧ Bel w wr ∧ TwoO w.heap.size wr vo vn (pickN (ofP Q X inn) q).length (rowsL (fun j => Q (LN (pickN (ofP Q X inn) rn) j)) (pickN (ofP Q X inn) q).length) (intsV (pickN (ofP Q X inn) q))) (fun i _ _ _ => rn - (intOf i).toNat)
      case atStart => exact ⟨0, by omega, rfl, hB, ⟨OwnR.nil _ _ _, OwnR.nil _ _ _, fun _ => ⟨rfl, rfl⟩, fun go co gn cn e => by cases e⟩⟩
      case round =>
        obtain ⟨q, hq2, rfl, hB2, hT⟩ := hrel
        by_cases hlt2 : q < rn
        · have e9 : rs = some ⟨rb, ro, none⟩ := by rcases hrs with h | h; omega; exact h
          subst e9
          have hqI : (q : Int) < (rn : Int) := by omega
          have hcq := hq q hlt2
          unfold chB mayB at hcq
          simp only [Bool.and_eq_true, decide_eq_true_eq] at hcq
          have hra : 0 ≤ (Q q).ra := hcq.1.1
          have hrb : 0 ≤ (Q q).rb := hcq.1.2.1
          clear hcq
          obtain ⟨w2, rfl⟩ : ∃ w2, w2 = wr := ⟨_, rfl⟩
          repeat (first | go_values | go_skip | go_guarded | go_step | go_upon | go_back | dsimp only)
          go_loopw [12, 11] (fun i b wr => ∃ k : Nat, k ≤ inn ∧ i = .int .i64 k ∧ b = .bool (anyN (fun z => decide ((Q q).ra = X z) || decide ((Q q).rb = X z)) k) ∧ Bel w2 wr) (fun i _ _ => inn - (intOf i).toNat)
          case atStart => exact ⟨0, by omega, rfl, rfl, bl_refl _⟩
          case round =>
            obtain ⟨k, hk3, rfl, rfl, hB3⟩ := hrel
            by_cases hlt3 : k < inn
            · have e8 : is_ = some ⟨ib, io, none⟩ := by rcases his with h | h; omega; exact h
              subst e8
              have hkI : (k : Int) < (inn : Int) := by omega
              have hqq := ((hr.bel hB2).bel hB3) q hlt2
              have c0 : wr.cell? ⟨rb, ro + q * 14, none⟩ = some (.int .i64 (Q q).ra) := hqq 0 _ rfl
              have c1 : wr.cell? ⟨rb, ro + q * 14 + 1, none⟩ = some (.int .i64 (Q q).rb) := hqq 1 _ rfl
              have c2 : wr.cell? ⟨ib, io + k, none⟩ = some (.int .i64 (X k)) := ((hi_.bel hB2).bel hB3) k hlt3
              clear hqq
              haveI := belBy_some wr
              have b0 := belBy_cell c0
              have b1 := belBy_cell c1
              have b2 := belBy_cell c2
              cases ha : anyN (fun z => decide ((Q q).ra = X z) || decide ((Q q).rb = X z)) k
              · by_cases n1 : (Q q).ra = X k
                · have m1 : ((Q q).ra == X k) = true := by simp [n1]
                  repeat (first | go_values | go_skip | go_guarded | go_step | go_upon | go_back | dsimp only)
                  refine wp_region_quiet_bel (by kernel_rfl) (by kernel_rfl) ?_
                  repeat (go_big_quiet_step (fail))
                  refine wpQuiet_nil ?_
                  rintro _ ⟨nq, rfl⟩
                  repeat (first | go_values | go_skip | go_guarded | go_step | go_upon | go_back | dsimp only)
                  refine ⟨⟨k + 1, by omega, by first | go_num | rfl, ?_, bl_trans hB3 nq.h⟩, by simp [intOf]; omega⟩
                  show Value.bool _ = .bool (anyN (fun z => decide ((Q q).ra = X z) || decide ((Q q).rb = X z)) k || (fun z => decide ((Q q).ra = X z) || decide ((Q q).rb = X z)) k)
                  rw [ha]; simp [n1]
                · have m1 : ((Q q).ra == X k) = false := by simp [n1]
                  by_cases n2 : (Q q).rb = X k
                  · have m2 : ((Q q).rb == X k) = true := by simp [n2]
                    repeat (first | go_values | go_skip | go_guarded | go_step | go_upon | go_back | dsimp only)
                    refine wp_region_quiet_bel (by kernel_rfl) (by kernel_rfl) ?_
                    repeat (go_big_quiet_step (fail))
                    refine wpQuiet_nil ?_
                    rintro _ ⟨nq, rfl⟩
                    repeat (first | go_values | go_skip | go_guarded | go_step | go_upon | go_back | dsimp only)
                    refine ⟨⟨k + 1, by omega, by first | go_num | rfl, ?_, bl_trans hB3 nq.h⟩, by simp [intOf]; omega⟩
                    show Value.bool _ = .bool (anyN (fun z => decide ((Q q).ra = X z) || decide ((Q q).rb = X z)) k || (fun z => decide ((Q q).ra = X z) || decide ((Q q).rb = X z)) k)
                    rw [ha]; simp [n2]
                  · have m2 : ((Q q).rb == X k) = false := by simp [n2]
                    repeat (first | go_values | go_skip | go_guarded | go_step | go_upon | go_back | dsimp only)
                    refine wp_region_quiet_bel (by kernel_rfl) (by kernel_rfl) ?_
                    repeat (go_big_quiet_step (fail))
                    refine wpQuiet_nil ?_
                    rintro _ ⟨nq, rfl⟩
                    repeat (first | go_values | go_skip | go_guarded | go_step | go_upon | go_back | dsimp only)
                    refine ⟨⟨k + 1, by omega, by first | go_num | rfl, ?_, bl_trans hB3 nq.h⟩, by simp [intOf]; omega⟩
                    show Value.bool _ = .bool (anyN (fun z => decide ((Q q).ra = X z) || decide ((Q q).rb = X z)) k || (fun z => decide ((Q q).ra = X z) || decide ((Q q).rb = X z)) k)
                    rw [ha]; simp [n1, n2]
              · repeat (first | go_values | go_skip | go_guarded | go_step | go_upon | go_back | dsimp only)
                refine wp_region_quiet_bel (by kernel_rfl) (by kernel_rfl) ?_
                repeat (go_big_quiet_step (fail))
                refine wpQuiet_nil ?_
                rintro _ ⟨nq, rfl⟩
                repeat (first | go_values | go_skip | go_guarded | go_step | go_upon | go_back | dsimp only)
                refine ⟨⟨k + 1, by omega, by first | go_num | rfl, ?_, bl_trans hB3 nq.h⟩, by simp [intOf]; omega⟩
                show Value.bool _ = .bool (anyN (fun z => decide ((Q q).ra = X z) || decide ((Q q).rb = X z)) k || (fun z => decide ((Q q).ra = X z) || decide ((Q q).rb = X z)) k)
                rw [ha]; simp
            · have hkn : inn = k := by omega
              subst hkn
              rw [of_eq hra hrb]
              have hT3 := hT.bel hB3
              have hpl := pick_le (ofP Q X inn) q
              obtain ⟨vo', wa, vn', wb, a1, a2, a3, a4⟩ := two_app (Q q) (q : Int) hT3 (bl_trans hB2 hB3) rfl (by omega)
              have hld : wr.rangeAt rb (ro + q * 14) [.int .i64 (Q q).ra, .int .i64 (Q q).rb, .float .f64 (Q q).r2, .float .f64 (Q q).r3, .float .f64 (Q q).r4, .float .f64 (Q q).r5, .float .f64 (Q q).r6, .float .f64 (Q q).r7, .float .f64 (Q q).r8, .float .f64 (Q q).r9, .float .f64 (Q q).r10, .float .f64 (Q q).r11, .int .i64 (Q q).ro, .float .f64 (Q q).r13] := ((hr.bel hB2).bel hB3) q hlt2
              cases hp : (ofP Q X inn) q
              · repeat (first | go_values | go_skip | go_guarded | go_step | go_upon | go_back | dsimp only)
                exact ⟨⟨q + 1, by omega, by first | go_num | rfl, bl_trans hB2 hB3, by rw [pick_no hp]; exact hT3⟩, by simp [intOf]; omega⟩
              · repeat (first | ((with_reducible show Oper.wp _ { dst := _, op := Op.load 56 _, type := _, pos := _, after := _, guard := _ } _ _ _ _); refine wp_load_mid (P := Try.prog) 56 _ rfl _ _ rfl [.int .i64 (Q q).ra, .int .i64 (Q q).rb, .float .f64 (Q q).r2, .float .f64 (Q q).r3, .float .f64 (Q q).r4, .float .f64 (Q q).r5, .float .f64 (Q q).r6, .float .f64 (Q q).r7, .float .f64 (Q q).r8, .float .f64 (Q q).r9, .float .f64 (Q q).r10, .float .f64 (Q q).r11, .int .i64 (Q q).ro, .float .f64 (Q q).r13] _ (by with_reducible assumption) Try.underlying56 rfl (by kernel_rfl) ?_; simp only [go_sem]) | ((with_reducible show wpList _ _ _ ({ dst := some 82, op := _, type := _, pos := _, after := _, guard := _ } :: _) _ _); at_builtin; refine wpList_runX 22 rfl (.tmp 76) (.tmp 81) rfl rfl rfl a1 ?_) | ((with_reducible show wpList _ _ _ ({ dst := some 86, op := _, type := _, pos := _, after := _, guard := _ } :: _) _ _); at_builtin; refine wpList_runX 51 rfl (.tmp 83) (.tmp 85) rfl rfl rfl a2 ?_) | go_values | go_skip | go_guarded | go_step | go_upon | go_back | dsimp only)
                refine ⟨⟨q + 1, by omega, by first | go_num | rfl, a4, ?_⟩, by simp [intOf]; omega⟩
                rw [pick_yes hp, List.length_append, List.length_singleton, rowsL_snoc, (pick_at (p := (ofP Q X inn)) hlt2 hp).2, show intsV (pickN (ofP Q X inn) q ++ [q]) = intsV (pickN (ofP Q X inn) q) ++ [.int .i64 (q : Int)] by unfold intsV; rw [List.map_append]; rfl]
                exact a3
        · have hqn : rn = q := by omega
          subst hqn
          obtain ⟨w3, rfl⟩ : ∃ w3, w3 = wr := ⟨_, rfl⟩
          have hcr : crB Q rn 1024 rn = true := crB_of hq
          obtain ⟨go, co, so_, gn, cn, sn_, rfl, rfl, ho1, hn1, ho2, ho3, hn2, hn3, hoR, hnI, hob, hnb, hne, hfo⟩ := two_open rfl hT
          obtain ⟨m, hm⟩ : ∃ m, m = (pickN (ofP Q X inn) rn).length := ⟨_, rfl⟩
          have hpl := pick_le (ofP Q X inn) rn
          rw [← hm] at ho1 hn1 ho2 hn2 hoR hnI hne hnb hfo hpl ⊢
          have hmV : Veil (m = (pickN (ofP Q X inn) rn).length) := hm
          clear hm hT hq
          repeat (first | go_values | go_skip | go_guarded | go_step | go_upon | go_back | dsimp only)
          go_loopw [13] (fun i wr => ∃ j : Nat, j ≤ m ∧ i = .int .i64 j ∧ Bel w wr ∧ (∀ i, i < m → wr.rangeAt go (i * 14) (rc (if i < j then onlyR Q (pickN (ofP Q X inn) rn) i else Q (LN (pickN (ofP Q X inn) rn) i)))) ∧ (∀ i, i < m → wr.cell? ⟨gn, i, none⟩ = some (.int .i64 (LN (pickN (ofP Q X inn) rn) i : Int))) ∧ (0 < m → ∀ o, wr.frozen? ⟨go, o, none⟩ = false)) (fun i _ => m - (intOf i).toNat)
          case atStart => exact ⟨0, by omega, rfl, hB2, fun i hi => by rw [if_neg (by omega)]; have h := hoR i hi; rwa [Nat.zero_add] at h, hnI, hfo⟩
          case round =>
            clear hoR hnI hfo
            obtain ⟨j, hj, rfl, hB4, hoR, hnI, hfo⟩ := hrel
            by_cases hlj : j < m
            · have e1 : so_ = some ⟨go, 0, none⟩ := by rcases ho1 with h | h; omega; exact h
              have e2 : sn_ = some ⟨gn, 0, none⟩ := by rcases hn1 with h | h; omega; exact h
              subst e1 e2
              have hjI : (j : Int) < (m : Int) := by omega
              have hrow := hoR j hlj
              rw [if_neg (show ¬ j < j by omega)] at hrow
              obtain ⟨y, hy⟩ : ∃ y, y = (Q (LN (pickN (ofP Q X inn) rn) j)).ro := ⟨_, rfl⟩
              have c12 : wr.cell? ⟨go, j * 14 + 12, none⟩ = some (.int .i64 y) := by rw [hy]; exact hrow 12 _ rfl
              have hyV : Veil (y = (Q (LN (pickN (ofP Q X inn) rn) j)).ro) := hy
              clear hy
              obtain ⟨w4, rfl⟩ : ∃ w4, w4 = wr := ⟨_, rfl⟩
              repeat (first | go_values | go_skip | go_guarded | go_step | go_upon | go_back | dsimp only)
              go_loopw [15, 14] (fun i v wr => ∃ k : Nat, k ≤ m ∧ i = .int .i64 k ∧ Bel w4 wr ∧ ∃ t : Int, v = .int .i64 t ∧ ((∃ r, r < k ∧ t = (r : Int) ∧ (LN (pickN (ofP Q X inn) rn) r : Int) = y) ∨ (t = -1 ∧ ∀ r, r < k → (LN (pickN (ofP Q X inn) rn) r : Int) ≠ y))) (fun i _ _ => m - (intOf i).toNat)
              case atStart => exact ⟨0, by omega, rfl, bl_refl _, -1, rfl, .inr ⟨rfl, fun r hr => by omega⟩⟩
              case round =>
                obtain ⟨k, hk5, rfl, hB5, t, rfl, ht⟩ := hrel
                by_cases hlk : k < m
                · have hkI : (k : Int) < (m : Int) := by omega
                  have cn5 := keep hB5 (hnI k hlk)
                  have co5 := keep hB5 c12
                  by_cases hey : (LN (pickN (ofP Q X inn) rn) k : Int) = y
                  · have hm1 : (((LN (pickN (ofP Q X inn) rn) k : Nat) : Int) == y) = true := by simp [hey]
                    have heyV : Veil ((LN (pickN (ofP Q X inn) rn) k : Int) = y) := hey
                    clear hey
                    repeat (first | go_values | go_skip | go_guarded | go_step | go_upon | go_back | dsimp only)
                    refine wp_region_mono 10 rfl (fun i W v => match i with | 0 => v = .slice (some ⟨gn, 0, none⟩) m cn | 1 => v = .int .i64 (k : Int) | 2 => v = .pointer (some ⟨gn, k, none⟩) | 3 => v = .int .i64 (LN (pickN (ofP Q X inn) rn) k : Int) | 4 => v = .slice (some ⟨go, 0, none⟩) m co | 5 => v = .int .i64 (j : Int) | 6 => v = .pointer (some ⟨go, j * 14, none⟩) | 7 => v = .pointer (some ⟨go, j * 14 + 12, none⟩) | 8 => v = .int .i64 y | 9 => v = .bool true | _ => False) ?A_pa (by kernel_rfl) (by kernel_rfl) ?hA_pa ?hmo_pa ?hq_pa ?ht_pa
                    case hA_pa =>
                      intro s
                      simp only [putL, dstO, Act.put, List.getElem?_toArray, List.getElem?_cons_zero, List.getElem?_cons_succ, Option.bind_some, List.setIfInBounds_toArray, List.set_cons_zero, List.set_cons_succ, if_true]
                      all_goals exact rfl
                    case hmo_pa =>
                      intro i W W' v hi hb h
                      rcases (show i = 0 ∨ i = 1 ∨ i = 2 ∨ i = 3 ∨ i = 4 ∨ i = 5 ∨ i = 6 ∨ i = 7 ∨ i = 8 ∨ i = 9 by omega) with rfl | rfl | rfl | rfl | rfl | rfl | rfl | rfl | rfl | rfl
                      all_goals exact h
                    case hq_pa =>
                      intro i o hi ho s W hs hb K hK
                      have uc := keep hb cn5; have uo := keep hb co5
                      rcases (show i = 0 ∨ i = 1 ∨ i = 2 ∨ i = 3 ∨ i = 4 ∨ i = 5 ∨ i = 6 ∨ i = 7 ∨ i = 8 ∨ i = 9 by omega) with rfl | rfl | rfl | rfl | rfl | rfl | rfl | rfl | rfl | rfl
                      · cases ho
                        simp only [Act.put, List.setIfInBounds_toArray, List.set_cons_zero, List.set_cons_succ] at hK
                        clear hs
                        go_simp
                        all_goals first | with_reducible exact hK.out _ _ rfl (bl_refl _) | exact hK.out _ _ rfl (bl_refl _)
                      · cases ho
                        simp only [Act.put, List.setIfInBounds_toArray, List.set_cons_zero, List.set_cons_succ] at hK
                        clear hs
                        go_simp
                        all_goals first | with_reducible exact hK.out _ _ rfl (bl_refl _) | exact hK.out _ _ rfl (bl_refl _)
                      · cases ho
                        have e0 : s 0 = _ := hs 0 (by decide) (by kernel_rfl)
                        have e1 : s 1 = _ := hs 1 (by decide) (by kernel_rfl)
                        simp only [e0, e1] at hK ⊢
                        simp only [Act.put, List.setIfInBounds_toArray, List.set_cons_zero, List.set_cons_succ] at hK
                        clear hs
                        go_simp
                        all_goals first | with_reducible exact hK.out _ _ rfl (bl_refl _) | exact hK.out _ _ rfl (bl_refl _)
                      · cases ho
                        have e2 : s 2 = _ := hs 2 (by decide) (by kernel_rfl)
                        simp only [e2] at hK ⊢
                        simp only [Act.put, List.setIfInBounds_toArray, List.set_cons_zero, List.set_cons_succ] at hK
                        clear hs
                        go_simp
                        all_goals first | with_reducible exact hK.out _ _ rfl (bl_refl _) | exact hK.out _ _ rfl (bl_refl _)
                      · cases ho
                        simp only [Act.put, List.setIfInBounds_toArray, List.set_cons_zero, List.set_cons_succ] at hK
                        clear hs
                        go_simp
                        all_goals first | with_reducible exact hK.out _ _ rfl (bl_refl _) | exact hK.out _ _ rfl (bl_refl _)
                      · cases ho
                        simp only [Act.put, List.setIfInBounds_toArray, List.set_cons_zero, List.set_cons_succ] at hK
                        clear hs
                        go_simp
                        all_goals first | with_reducible exact hK.out _ _ rfl (bl_refl _) | exact hK.out _ _ rfl (bl_refl _)
                      · cases ho
                        have e4 : s 4 = _ := hs 4 (by decide) (by kernel_rfl)
                        have e5 : s 5 = _ := hs 5 (by decide) (by kernel_rfl)
                        simp only [e4, e5] at hK ⊢
                        simp only [Act.put, List.setIfInBounds_toArray, List.set_cons_zero, List.set_cons_succ] at hK
                        clear hs
                        go_simp
                        all_goals first | with_reducible exact hK.out _ _ rfl (bl_refl _) | exact hK.out _ _ rfl (bl_refl _)
                      · cases ho
                        have e6 : s 6 = _ := hs 6 (by decide) (by kernel_rfl)
                        simp only [e6] at hK ⊢
                        simp only [Act.put, List.setIfInBounds_toArray, List.set_cons_zero, List.set_cons_succ] at hK
                        clear hs
                        go_simp
                        all_goals first | with_reducible exact hK.out _ _ rfl (bl_refl _) | exact hK.out _ _ rfl (bl_refl _)
                      · cases ho
                        have e7 : s 7 = _ := hs 7 (by decide) (by kernel_rfl)
                        simp only [e7] at hK ⊢
                        simp only [Act.put, List.setIfInBounds_toArray, List.set_cons_zero, List.set_cons_succ] at hK
                        clear hs
                        go_simp
                        all_goals first | with_reducible exact hK.out _ _ rfl (bl_refl _) | exact hK.out _ _ rfl (bl_refl _)
                      · cases ho
                        have e3 : s 3 = _ := hs 3 (by decide) (by kernel_rfl)
                        have e8 : s 8 = _ := hs 8 (by decide) (by kernel_rfl)
                        simp only [e3, e8] at hK ⊢
                        simp only [Act.put, List.setIfInBounds_toArray, List.set_cons_zero, List.set_cons_succ] at hK
                        clear hs
                        go_simp
                        all_goals first | with_reducible exact hK.out _ _ rfl (bl_refl _) | exact hK.out _ _ rfl (bl_refl _)
                    case ht_pa =>
                      intro s W hs hb
                      have e0 : s 0 = _ := hs 0 (by decide)
                      have e1 : s 1 = _ := hs 1 (by decide)
                      have e2 : s 2 = _ := hs 2 (by decide)
                      have e3 : s 3 = _ := hs 3 (by decide)
                      have e4 : s 4 = _ := hs 4 (by decide)
                      have e5 : s 5 = _ := hs 5 (by decide)
                      have e6 : s 6 = _ := hs 6 (by decide)
                      have e7 : s 7 = _ := hs 7 (by decide)
                      have e8 : s 8 = _ := hs 8 (by decide)
                      have e9 : s 9 = _ := hs 9 (by decide)
                      simp only [e0, e1, e2, e3, e4, e5, e6, e7, e8, e9]
                      clear hs e0 e1 e2 e3 e4 e5 e6 e7 e8 e9
                      repeat (first | go_values | go_skip | go_guarded | go_step | go_upon | go_back | dsimp only)
                      exact ⟨⟨k + 1, by omega, by first | go_num | rfl, bl_trans hB5 hb, (k : Int), by first | rfl | trivial, .inl ⟨k, by omega, rfl, heyV.out⟩⟩, by simp [intOf]; omega⟩
                  · have hm1 : (((LN (pickN (ofP Q X inn) rn) k : Nat) : Int) == y) = false := by simp [hey]
                    repeat (first | go_values | go_skip | go_guarded | go_step | go_upon | go_back | dsimp only)
                    refine wp_region_mono 10 rfl (fun i W v => match i with | 0 => v = .slice (some ⟨gn, 0, none⟩) m cn | 1 => v = .int .i64 (k : Int) | 2 => v = .pointer (some ⟨gn, k, none⟩) | 3 => v = .int .i64 (LN (pickN (ofP Q X inn) rn) k : Int) | 4 => v = .slice (some ⟨go, 0, none⟩) m co | 5 => v = .int .i64 (j : Int) | 6 => v = .pointer (some ⟨go, j * 14, none⟩) | 7 => v = .pointer (some ⟨go, j * 14 + 12, none⟩) | 8 => v = .int .i64 y | 9 => v = .bool false | _ => False) ?A_pb (by kernel_rfl) (by kernel_rfl) ?hA_pb ?hmo_pb ?hq_pb ?ht_pb
                    case hA_pb =>
                      intro s
                      simp only [putL, dstO, Act.put, List.getElem?_toArray, List.getElem?_cons_zero, List.getElem?_cons_succ, Option.bind_some, List.setIfInBounds_toArray, List.set_cons_zero, List.set_cons_succ, if_true]
                      all_goals exact rfl
                    case hmo_pb =>
                      intro i W W' v hi hb h
                      rcases (show i = 0 ∨ i = 1 ∨ i = 2 ∨ i = 3 ∨ i = 4 ∨ i = 5 ∨ i = 6 ∨ i = 7 ∨ i = 8 ∨ i = 9 by omega) with rfl | rfl | rfl | rfl | rfl | rfl | rfl | rfl | rfl | rfl
                      all_goals exact h
                    case hq_pb =>
                      intro i o hi ho s W hs hb K hK
                      have uc := keep hb cn5; have uo := keep hb co5
                      rcases (show i = 0 ∨ i = 1 ∨ i = 2 ∨ i = 3 ∨ i = 4 ∨ i = 5 ∨ i = 6 ∨ i = 7 ∨ i = 8 ∨ i = 9 by omega) with rfl | rfl | rfl | rfl | rfl | rfl | rfl | rfl | rfl | rfl
                      · cases ho
                        simp only [Act.put, List.setIfInBounds_toArray, List.set_cons_zero, List.set_cons_succ] at hK
                        clear hs
                        go_simp
                        all_goals first | with_reducible exact hK.out _ _ rfl (bl_refl _) | exact hK.out _ _ rfl (bl_refl _)
                      · cases ho
                        simp only [Act.put, List.setIfInBounds_toArray, List.set_cons_zero, List.set_cons_succ] at hK
                        clear hs
                        go_simp
                        all_goals first | with_reducible exact hK.out _ _ rfl (bl_refl _) | exact hK.out _ _ rfl (bl_refl _)
                      · cases ho
                        have e0 : s 0 = _ := hs 0 (by decide) (by kernel_rfl)
                        have e1 : s 1 = _ := hs 1 (by decide) (by kernel_rfl)
                        simp only [e0, e1] at hK ⊢
                        simp only [Act.put, List.setIfInBounds_toArray, List.set_cons_zero, List.set_cons_succ] at hK
                        clear hs
                        go_simp
                        all_goals first | with_reducible exact hK.out _ _ rfl (bl_refl _) | exact hK.out _ _ rfl (bl_refl _)
                      · cases ho
                        have e2 : s 2 = _ := hs 2 (by decide) (by kernel_rfl)
                        simp only [e2] at hK ⊢
                        simp only [Act.put, List.setIfInBounds_toArray, List.set_cons_zero, List.set_cons_succ] at hK
                        clear hs
                        go_simp
                        all_goals first | with_reducible exact hK.out _ _ rfl (bl_refl _) | exact hK.out _ _ rfl (bl_refl _)
                      · cases ho
                        simp only [Act.put, List.setIfInBounds_toArray, List.set_cons_zero, List.set_cons_succ] at hK
                        clear hs
                        go_simp
                        all_goals first | with_reducible exact hK.out _ _ rfl (bl_refl _) | exact hK.out _ _ rfl (bl_refl _)
                      · cases ho
                        simp only [Act.put, List.setIfInBounds_toArray, List.set_cons_zero, List.set_cons_succ] at hK
                        clear hs
                        go_simp
                        all_goals first | with_reducible exact hK.out _ _ rfl (bl_refl _) | exact hK.out _ _ rfl (bl_refl _)
                      · cases ho
                        have e4 : s 4 = _ := hs 4 (by decide) (by kernel_rfl)
                        have e5 : s 5 = _ := hs 5 (by decide) (by kernel_rfl)
                        simp only [e4, e5] at hK ⊢
                        simp only [Act.put, List.setIfInBounds_toArray, List.set_cons_zero, List.set_cons_succ] at hK
                        clear hs
                        go_simp
                        all_goals first | with_reducible exact hK.out _ _ rfl (bl_refl _) | exact hK.out _ _ rfl (bl_refl _)
                      · cases ho
                        have e6 : s 6 = _ := hs 6 (by decide) (by kernel_rfl)
                        simp only [e6] at hK ⊢
                        simp only [Act.put, List.setIfInBounds_toArray, List.set_cons_zero, List.set_cons_succ] at hK
                        clear hs
                        go_simp
                        all_goals first | with_reducible exact hK.out _ _ rfl (bl_refl _) | exact hK.out _ _ rfl (bl_refl _)
                      · cases ho
                        have e7 : s 7 = _ := hs 7 (by decide) (by kernel_rfl)
                        simp only [e7] at hK ⊢
                        simp only [Act.put, List.setIfInBounds_toArray, List.set_cons_zero, List.set_cons_succ] at hK
                        clear hs
                        go_simp
                        all_goals first | with_reducible exact hK.out _ _ rfl (bl_refl _) | exact hK.out _ _ rfl (bl_refl _)
                      · cases ho
                        have e3 : s 3 = _ := hs 3 (by decide) (by kernel_rfl)
                        have e8 : s 8 = _ := hs 8 (by decide) (by kernel_rfl)
                        simp only [e3, e8] at hK ⊢
                        simp only [Act.put, List.setIfInBounds_toArray, List.set_cons_zero, List.set_cons_succ] at hK
                        clear hs
                        go_simp
                        all_goals first | with_reducible exact hK.out _ _ rfl (bl_refl _) | exact hK.out _ _ rfl (bl_refl _)
                    case ht_pb =>
                      intro s W hs hb
                      have e0 : s 0 = _ := hs 0 (by decide)
                      have e1 : s 1 = _ := hs 1 (by decide)
                      have e2 : s 2 = _ := hs 2 (by decide)
                      have e3 : s 3 = _ := hs 3 (by decide)
                      have e4 : s 4 = _ := hs 4 (by decide)
                      have e5 : s 5 = _ := hs 5 (by decide)
                      have e6 : s 6 = _ := hs 6 (by decide)
                      have e7 : s 7 = _ := hs 7 (by decide)
                      have e8 : s 8 = _ := hs 8 (by decide)
                      have e9 : s 9 = _ := hs 9 (by decide)
                      simp only [e0, e1, e2, e3, e4, e5, e6, e7, e8, e9]
                      clear hs e0 e1 e2 e3 e4 e5 e6 e7 e8 e9
                      repeat (first | go_values | go_skip | go_guarded | go_step | go_upon | go_back | dsimp only)
                      refine ⟨⟨k + 1, by omega, by first | go_num | rfl, bl_trans hB5 hb, t, by first | rfl | trivial, ?_⟩, by simp [intOf]; omega⟩
                      rcases ht with ⟨r, h1, h2, h3⟩ | ⟨h1, h2⟩
                      · exact .inl ⟨r, by omega, h2, h3⟩
                      · refine .inr ⟨h1, fun r hr => ?_⟩
                        rcases Nat.lt_or_ge r k with h | h
                        · exact h2 r h
                        · have e : r = k := by omega
                          subst e; exact hey
                · have hkn : m = k := by omega
                  subst hkn
                  have hpos : t = posI (pickN (ofP Q X inn) rn) (Q (LN (pickN (ofP Q X inn) rn) j)).ro := by
                    rw [← hyV.out]
                    rcases ht with ⟨r, h1, h2, h3⟩ | ⟨h1, h2⟩
                    · rw [h2, pos_yes (pick_up _ _) (by rw [← hmV.out]; exact h1) h3]
                    · rw [h1, pos_no (fun i hi => h2 i (by rw [hmV.out]; exact hi))]
                  have hposV : Veil (t = posI (pickN (ofP Q X inn) rn) (Q (LN (pickN (ofP Q X inn) rn) j)).ro) := hpos
                  clear hpos ht
                  have c13 := keep hB5 c12
                  have f13 : wr.frozen? ⟨go, j * 14 + 12, none⟩ = false := by rw [hB5.2]; exact hfo (by omega) _
                  repeat (first | go_values | go_skip | go_guarded | go_step | go_upon | go_back | dsimp only)
                  refine ⟨⟨j + 1, by omega, by first | go_num | rfl, bel_set1 (bl_trans hB4 hB5) hob, fun i hi => ?_, fun i hi => ?_, fun h0 o => ?_⟩, by simp [intOf]; omega⟩
                  · by_cases e : i = j
                    · subst e
                      rw [if_pos (by omega)]
                      have h := rng_set12 (t := t) (rng_bel hrow hB5)
                      rw [hposV.out] at h ⊢
                      exact h
                    · have h := rng_bel (hoR i hi) hB5
                      rw [show (if i < j + 1 then onlyR Q (pickN (ofP Q X inn) rn) i else Q (LN (pickN (ofP Q X inn) rn) i)) = (if i < j then onlyR Q (pickN (ofP Q X inn) rn) i else Q (LN (pickN (ofP Q X inn) rn) i)) by split <;> split <;> first | rfl | omega]
                      intro c v hc
                      have h14 : c < 14 := (List.getElem?_eq_some_iff.1 hc).1
                      rw [World.cell?_setCell_other _ _ _ _ (by intro q9; injection q9 with _ q8; omega)]
                      exact h c v hc
                  · rw [set_block (Ne.symm (hne (by omega)))]; exact keep hB5 (hnI i hi)
                  · rw [World.frozen?_setCell, hB5.2]; exact hfo h0 o
            · have hjm : m = j := by omega
              subst hjm
              repeat (first | go_values | go_skip | go_guarded | go_step | go_upon | go_back | dsimp only)
              refine bodyPost_ret (v := .tuple #[.slice so_ m co, .slice sn_ m cn, .int .i64 0]) (by kernel_rfl) rfl ?_
              refine .inr ⟨hcr, go, co, so_, gn, cn, sn_, ?_⟩
              rw [← hmV.out]
              exact ⟨ho1, hn1, ho2, hn2, hob, hnb, fun i hi => by have h := hoR i hi; rw [if_pos hi] at h; rwa [Nat.zero_add], hnI, rfl, hB4⟩

end Go.Proofs.Ytchfgaooogfkdaa
