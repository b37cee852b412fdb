/-
  P5.2, P5.8: 'tumblelaw05.BoxLeast' is true of every list of ways.
-/
import Derived.Test.YtdpbkfdccoogkaaRows
import Derived.Test.YtdpbkfdccoogkaaBof
import Derived.Test.YtdpbkfdccoogkaaBalive
import Derived.Test.YtdpbkfdccoogkaaBel
import Derived.WalkKit
import Derived.ProofKit
import Derived.OpenShut
import Derived.WalkLawsBesides
import Derived.WalkSpells
import Derived.Lib.SmallJoins
import Derived.Laws.Cover2
import Derived.Laws.AppendOwn
import Derived.Laws.OwnMore
import Derived.Laws.AppendOwnNone
import Derived.Deep.RegionHeld3
import Derived.Deep.RegionWith
import Derived.Deep.SlicePairs
import Derived.SizedLaws
import Derived.Below
import Derived.Laws.StructEq
namespace Go.Proofs.Ytdpbkfdccoogkaa.boxLeast
open Go.ChangeShapes Go.WideShapes Go.ChangeAt Go.RowKit Go.Joins
set_option linter.unusedVariables false
set_option linter.unusedSimpArgs false

theorem own : ownKnob Try.prog.godebug = none := by kernel_rfl
theorem laidOut : laidOutB Try.prog = true := by kernel_rfl
theorem wf_f64 {x : Nat} (h : (Lit.float .f64 x).wf = true) : okK .f64 x := by
  rw [okK64]; simpa [Lit.wf] using h
theorem trod_fl {H : Type} {enc : TypeId × Value → H} {P : Program} {w : World} {base fuel : Nat} {spare : Nat → Bool} {held : Bool} {t : TypeId} {cs : List Value} {x : DataW H × List MemPlace} {k : FloatKind} (ht : P.underlying t = some (.float k)) (h : DataW.trod enc P w base spare held fuel t cs = some x) : ∃ z, cs = [.float k z] ∧ x = (.lit (.float k z), []) ∧ (Lit.float k z).wf = true := by
  cases fuel with
  | zero => simp [DataW.trod] at h
  | succ n =>
    unfold DataW.trod at h
    rw [ht] at h
    split at h <;> simp_all

theorem lt_of_cell {w : World} {a : Addr} {v : Value} (h : w.cell? a = some v) : a.block < w.heap.size := by
  unfold World.cell? at h
  rcases Nat.lt_or_ge a.block w.heap.size with h1 | h1
  · exact h1
  · rw [Array.getElem?_eq_none h1] at h; simp at h
/-- one of the first k is as great as v -/
def anyK (f : Nat → Nat) (v : Nat) : Nat → Bool
  | 0 => false
  | k + 1 => anyK f v k || eqK .f64 (f k) v
theorem any_true {f : Nat → Nat} {v : Nat} : ∀ {k i : Nat}, i < k → eqK .f64 (f i) v = true → anyK f v k = true := by
  intro k
  induction k with
  | zero => intro i h; omega
  | succ k ih =>
    intro i h e
    unfold anyK
    by_cases c : i = k
    · subst c; rw [e]; simp
    · rw [ih (by omega) e]; rfl
theorem pl_eq {a b : Nat} (oa : okK .f64 a) (ob : okK .f64 b) (h : plK a = plK b) : a = b := by
  rw [same_iff .f64 a b oa ob]
  unfold plK at h
  cases na : ngK .f64 a <;> cases nb : ngK .f64 b <;> rw [na, nb] at h <;> simp at h
  · exact ⟨rfl, by omega⟩
  · omega
  · omega
  · exact ⟨rfl, by omega⟩
theorem low_min {xs : Nat → Nat} {n : Nat} (h : ∀ i, i ≤ n → okK .f64 (xs i) ∧ nanK .f64 (xs i) = false) : ∀ k, k ≤ n → (∃ i, i ≤ k ∧ lowK xs k = xs i) ∧ ∀ i, i ≤ k → plK (lowK xs k) ≤ plK (xs i) := by
  intro k
  induction k with
  | zero => intro _; exact ⟨⟨0, Nat.le_refl _, rfl⟩, fun i hi => by rw [show i = 0 by omega]; exact Int.le_refl _⟩
  | succ k ih =>
    intro hk
    obtain ⟨⟨i, hi, e⟩, m⟩ := ih (by omega)
    have hi' := h i (by omega)
    have hk' := h (k + 1) hk
    show (∃ i, i ≤ k + 1 ∧ leastK .f64 (lowK xs k) (xs (k + 1)) = xs i) ∧ ∀ i, i ≤ k + 1 → plK (leastK .f64 (lowK xs k) (xs (k + 1))) ≤ plK (xs i)
    rcases Int.le_total (plK (lowK xs k)) (plK (xs (k + 1))) with c | c
    · have r := (least_le _ _ (by rw [e]; exact hi'.1) hk'.1 (by rw [e]; exact hi'.2) hk'.2 c).1
      rw [r]
      refine ⟨⟨i, by omega, e⟩, fun j hj => ?_⟩
      by_cases cj : j = k + 1
      · rw [cj]; exact c
      · exact m j (by omega)
    · have r := (least_le _ _ hk'.1 (by rw [e]; exact hi'.1) hk'.2 (by rw [e]; exact hi'.2) c).2.1
      rw [r]
      refine ⟨⟨k + 1, Nat.le_refl _, rfl⟩, fun j hj => ?_⟩
      by_cases cj : j = k + 1
      · rw [cj]; exact Int.le_refl _
      · exact Int.le_trans c (m j (by omega))
theorem high_max {xs : Nat → Nat} {n : Nat} (h : ∀ i, i ≤ n → okK .f64 (xs i) ∧ nanK .f64 (xs i) = false) : ∀ k, k ≤ n → (∃ i, i ≤ k ∧ highK xs k = xs i) ∧ ∀ i, i ≤ k → plK (xs i) ≤ plK (highK xs k) := by
  intro k
  induction k with
  | zero => intro _; exact ⟨⟨0, Nat.le_refl _, rfl⟩, fun i hi => by rw [show i = 0 by omega]; exact Int.le_refl _⟩
  | succ k ih =>
    intro hk
    obtain ⟨⟨i, hi, e⟩, m⟩ := ih (by omega)
    have hi' := h i (by omega)
    have hk' := h (k + 1) hk
    show (∃ i, i ≤ k + 1 ∧ mostK .f64 (highK xs k) (xs (k + 1)) = xs i) ∧ ∀ i, i ≤ k + 1 → plK (xs i) ≤ plK (mostK .f64 (highK xs k) (xs (k + 1)))
    rcases Int.le_total (plK (highK xs k)) (plK (xs (k + 1))) with c | c
    · have r := (least_le _ _ (by rw [e]; exact hi'.1) hk'.1 (by rw [e]; exact hi'.2) hk'.2 c).2.2.1
      rw [r]
      refine ⟨⟨k + 1, Nat.le_refl _, rfl⟩, fun j hj => ?_⟩
      by_cases cj : j = k + 1
      · rw [cj]; exact Int.le_refl _
      · exact Int.le_trans (m j (by omega)) c
    · have r := (least_le _ _ hk'.1 (by rw [e]; exact hi'.1) hk'.2 (by rw [e]; exact hi'.2) c).2.2.2
      rw [r]
      refine ⟨⟨i, by omega, e⟩, fun j hj => ?_⟩
      by_cases cj : j = k + 1
      · rw [cj]; exact c
      · exact m j (by omega)
/-- the least of pieces -/
theorem low_join {xs : Nat → Nat} {n k : Nat} (h : ∀ i, i ≤ n → okK .f64 (xs i) ∧ nanK .f64 (xs i) = false) (hk : k < n) : leastK .f64 (lowK xs k) (lowK (fun i => xs (k + 1 + i)) (n - (k + 1))) = lowK xs n := by
  obtain ⟨⟨i, hi, e⟩, m⟩ := low_min h k (by omega)
  have h' : ∀ i, i ≤ n - (k + 1) → okK .f64 (xs (k + 1 + i)) ∧ nanK .f64 (xs (k + 1 + i)) = false := fun i hi => h _ (by omega)
  obtain ⟨⟨j, hj, e2⟩, m2⟩ := low_min (xs := fun i => xs (k + 1 + i)) h' (n - (k + 1)) (Nat.le_refl _)
  obtain ⟨⟨l, hl, e3⟩, m3⟩ := low_min h n (Nat.le_refl _)
  have oi := h i (by omega)
  have oj := h (k + 1 + j) (by omega)
  have ol := h l hl
  have a1 := m3 i (by omega)
  have a2 := m3 (k + 1 + j) (by omega)
  have a3 : plK (lowK xs k) ≤ plK (lowK xs n) ∨ plK (lowK (fun i => xs (k + 1 + i)) (n - (k + 1))) ≤ plK (lowK xs n) := by
    by_cases c : l ≤ k
    · left; rw [e3]; exact m l c
    · right
      have := m2 (l - (k + 1)) (by omega)
      simp only [show k + 1 + (l - (k + 1)) = l by omega] at this
      rw [e3]; exact this
  rw [e] at a3 ⊢
  rw [e2] at a3 ⊢
  rcases Int.le_total (plK (xs i)) (plK (xs (k + 1 + j))) with c | c
  · rw [(least_le _ _ oi.1 oj.1 oi.2 oj.2 c).1]
    apply pl_eq oi.1 (by rw [e3]; exact ol.1)
    rcases a3 with a3 | a3
    · exact Int.le_antisymm a3 a1
    · exact Int.le_antisymm (Int.le_trans c a3) a1
  · rw [(least_le _ _ oj.1 oi.1 oj.2 oi.2 c).2.1]
    apply pl_eq oj.1 (by rw [e3]; exact ol.1)
    rcases a3 with a3 | a3
    · exact Int.le_antisymm (Int.le_trans c a3) a2
    · exact Int.le_antisymm a3 a2
theorem high_join {xs : Nat → Nat} {n k : Nat} (h : ∀ i, i ≤ n → okK .f64 (xs i) ∧ nanK .f64 (xs i) = false) (hk : k < n) : mostK .f64 (highK xs k) (highK (fun i => xs (k + 1 + i)) (n - (k + 1))) = highK xs n := by
  obtain ⟨⟨i, hi, e⟩, m⟩ := high_max h k (by omega)
  have h' : ∀ i, i ≤ n - (k + 1) → okK .f64 (xs (k + 1 + i)) ∧ nanK .f64 (xs (k + 1 + i)) = false := fun i hi => h _ (by omega)
  obtain ⟨⟨j, hj, e2⟩, m2⟩ := high_max (xs := fun i => xs (k + 1 + i)) h' (n - (k + 1)) (Nat.le_refl _)
  obtain ⟨⟨l, hl, e3⟩, m3⟩ := high_max h n (Nat.le_refl _)
  have oi := h i (by omega)
  have oj := h (k + 1 + j) (by omega)
  have ol := h l hl
  have a1 := m3 i (by omega)
  have a2 := m3 (k + 1 + j) (by omega)
  have a3 : plK (highK xs n) ≤ plK (highK xs k) ∨ plK (highK xs n) ≤ plK (highK (fun i => xs (k + 1 + i)) (n - (k + 1))) := by
    by_cases c : l ≤ k
    · left; rw [e3]; exact m l c
    · right
      have := m2 (l - (k + 1)) (by omega)
      simp only [show k + 1 + (l - (k + 1)) = l by omega] at this
      rw [e3]; exact this
  rw [e] at a3 ⊢
  rw [e2] at a3 ⊢
  rcases Int.le_total (plK (xs i)) (plK (xs (k + 1 + j))) with c | c
  · rw [(least_le _ _ oi.1 oj.1 oi.2 oj.2 c).2.2.1]
    apply pl_eq oj.1 (by rw [e3]; exact ol.1)
    rcases a3 with a3 | a3
    · exact Int.le_antisymm a2 (Int.le_trans a3 c)
    · exact Int.le_antisymm a2 a3
  · rw [(least_le _ _ oj.1 oi.1 oj.2 oi.2 c).2.2.2]
    apply pl_eq oi.1 (by rw [e3]; exact ol.1)
    rcases a3 with a3 | a3
    · exact Int.le_antisymm a1 a3
    · exact Int.le_antisymm a1 (Int.le_trans a3 c)
theorem mz_num {x : Nat} (h : nanK .f64 x = true) : mzK .f64 x = false := by
  have := nought_nan
  unfold mzK
  cases e : decide (rgK .f64 x = 0)
  · rfl
  · have z := of_decide_eq_true e
    rw [nanK_eq, z] at h
    simp at h
theorem least_nan {a b : Nat} (hb : nanK .f64 b = true) (ha : nanK .f64 a = false) : leastK .f64 a b = a := by
  unfold leastK
  rw [ha, mz_num hb]
  have : ltK .f64 b a = false := by unfold ltK; rw [hb]; rfl
  rw [this]; rfl
theorem most_nan {a b : Nat} (hb : nanK .f64 b = true) (ha : nanK .f64 a = false) : mostK .f64 a b = a := by
  unfold mostK
  have : ltK .f64 a b = false := by unfold ltK; rw [hb]; simp
  rw [ha, this]
  have r : decide (rgK .f64 b = 0) = false := by
    cases e : decide (rgK .f64 b = 0)
    · rfl
    · have z := of_decide_eq_true e
      rw [nanK_eq, z] at hb
      simp at hb
  rw [r]; simp
theorem nan_least {a b : Nat} (ha : nanK .f64 a = true) : leastK .f64 a b = b ∧ mostK .f64 a b = b := by
  unfold leastK mostK
  rw [ha]; exact ⟨rfl, rfl⟩
/-- whatever the others are: a number among them is not below the least, not above the most -/
theorem low_wo {xs : Nat → Nat} : ∀ {k i : Nat}, i ≤ k → nanK .f64 (xs i) = false → (nanK .f64 (lowK xs k) = false ∧ woK .f64 (lowK xs k) ≤ woK .f64 (xs i)) ∧ nanK .f64 (highK xs k) = false ∧ woK .f64 (xs i) ≤ woK .f64 (highK xs k) := by
  intro k
  induction k with
  | zero => intro i hi h; rw [show i = 0 by omega] at h ⊢; exact ⟨⟨h, Int.le_refl _⟩, h, Int.le_refl _⟩
  | succ k ih =>
    intro i hi h
    show (nanK .f64 (leastK .f64 (lowK xs k) (xs (k + 1))) = false ∧ woK .f64 (leastK .f64 (lowK xs k) (xs (k + 1))) ≤ woK .f64 (xs i)) ∧ nanK .f64 (mostK .f64 (highK xs k) (xs (k + 1))) = false ∧ woK .f64 (xs i) ≤ woK .f64 (mostK .f64 (highK xs k) (xs (k + 1)))
    have num : ∀ {a b : Nat}, nanK .f64 a = false → nanK .f64 b = false → nanK .f64 (leastK .f64 a b) = false ∧ nanK .f64 (mostK .f64 a b) = false := by
      intro a b ha hb
      constructor
      · rcases least_cases a b with e | e <;> rw [e] <;> assumption
      · rcases most_cases a b with e | e <;> rw [e] <;> assumption
    by_cases c : i = k + 1
    · subst c
      refine ⟨?_, ?_⟩
      · cases nl : nanK .f64 (lowK xs k)
        · exact ⟨(num nl h).1, (least_wo nl h).2⟩
        · rw [(nan_least nl).1]; exact ⟨h, Int.le_refl _⟩
      · cases nl : nanK .f64 (highK xs k)
        · exact ⟨(num nl h).2, (most_wo nl h).2⟩
        · rw [(nan_least nl).2]; exact ⟨h, Int.le_refl _⟩
    · obtain ⟨⟨a1, a2⟩, a3, a4⟩ := ih (by omega) h
      cases nk : nanK .f64 (xs (k + 1))
      · exact ⟨⟨(num a1 nk).1, Int.le_trans (least_wo a1 nk).1 a2⟩, (num a3 nk).2, Int.le_trans a4 (most_wo a3 nk).1⟩
      · rw [least_nan nk a1, most_nan nk a3]; exact ⟨⟨a1, a2⟩, a3, a4⟩
theorem has_of {xs ys : Nat → Nat} {n i : Nat} (hi : i ≤ n) (fx : finK .f64 (xs i) = true) (fy : finK .f64 (ys i) = true) : bHas (lowK xs n) (lowK ys n) (highK xs n) (highK ys n) (xs i) (ys i) = true := by
  obtain ⟨⟨a1, a2⟩, a3, a4⟩ := low_wo hi (fin_num fx)
  obtain ⟨⟨b1, b2⟩, b3, b4⟩ := low_wo hi (fin_num fy)
  unfold bHas
  rw [le_fin a1 (fin_num fx), le_fin (fin_num fx) a3, le_fin b1 (fin_num fy), le_fin (fin_num fy) b3]
  simp [a2, a4, b2, b4]
theorem ends_of {xs : Nat → Nat} {n : Nat} (o : ∀ i, i < n + 1 → okK .f64 (xs i)) (f : ∀ i, i < n + 1 → finK .f64 (xs i) = true) : anyK xs (lowK xs n) (n + 1) = true ∧ anyK xs (highK xs n) (n + 1) = true ∧ finK .f64 (lowK xs n) = true ∧ finK .f64 (highK xs n) = true := by
  have h : ∀ i, i ≤ n → okK .f64 (xs i) ∧ nanK .f64 (xs i) = false := fun i hi => ⟨o i (by omega), fin_num (f i (by omega))⟩
  obtain ⟨⟨i, hi, e⟩, _⟩ := low_min h n (Nat.le_refl _)
  obtain ⟨⟨j, hj, e2⟩, _⟩ := high_max h n (Nat.le_refl _)
  have self : ∀ {x : Nat}, finK .f64 x = true → eqK .f64 x x = true := fun h => by rw [eq_fin (fin_num h) (fin_num h)]; simp
  refine ⟨any_true (i := i) (by omega) (by rw [e]; exact self (f i (by omega))), any_true (i := j) (by omega) (by rw [e2]; exact self (f j (by omega))), by rw [e]; exact f i (by omega), by rw [e2]; exact f j (by omega)⟩
theorem chk_of {xs ys : Nat → Nat} {n : Nat} (o : ∀ i, i < n + 1 → okK .f64 (xs i)) (p : ∀ i, i < n + 1 → okK .f64 (ys i)) (f : ∀ i, i < n + 1 → finK .f64 (xs i) = true) (g : ∀ i, i < n + 1 → finK .f64 (ys i) = true) : bChk (lowK xs n) (lowK ys n) (highK xs n) (highK ys n) = true := by
  obtain ⟨⟨a1, a2⟩, a3, a4⟩ := low_wo (xs := xs) (Nat.zero_le n) (fin_num (f 0 (by omega)))
  obtain ⟨⟨b1, b2⟩, b3, b4⟩ := low_wo (xs := ys) (Nat.zero_le n) (fin_num (g 0 (by omega)))
  exact bx_to (ends_of o f).2.2.1 (ends_of p g).2.2.1 (ends_of o f).2.2.2 (ends_of p g).2.2.2 (by omega) (by omega)
set_option maxRecDepth 1000000 in
set_option maxHeartbeats 8000000 in
theorem walk_nil (i1 : Int) (wi1 : (Lit.int .i64 i1).wf = true) (w : World) :
    Calls Try.prog 7 #[.slice none 0 0, .int .i64 i1] w fun e w' => e = .returned (.bool true) ∧ Below w.heap.size w w' := by
  go_enter Try.func7, Try.ntmps7
  go_wp2_with fail
  refine (balive_any _).mono ?_
  rintro e w1 ⟨rfl, hb1⟩
  go_wp2_with fail
  refine (xOf_none _ _ _).mono ?_
  rintro e w2 ⟨rfl, hb2⟩
  go_wp2
  refine wp_loop_rounds 1 ?_
  rw [rounds_succ]
  go_wp2
  go_ret
  exact ⟨rfl, (bl_alloc (bl_trans hb1 hb2) _ _).1⟩
set_option maxRecDepth 1000000 in
set_option maxHeartbeats 8000000 in
theorem walk_zero (x : Addr) (cap : Nat) (i1 : Int) (wi1 : (Lit.int .i64 i1).wf = true) (w : World) :
    Calls Try.prog 7 #[.slice (some x) 0 cap, .int .i64 i1] w fun e w' => e = .returned (.bool true) ∧ Below w.heap.size w w' := by
  go_enter Try.func7, Try.ntmps7
  go_wp2_with fail
  refine (balive_any _).mono ?_
  rintro e w1 ⟨rfl, hb1⟩
  go_wp2_with fail
  refine (xOf_none _ _ _).mono ?_
  rintro e w2 ⟨rfl, hb2⟩
  go_wp2
  refine wp_loop_rounds 1 ?_
  rw [rounds_succ]
  go_wp2
  go_ret
  exact ⟨rfl, (bl_alloc (bl_trans hb1 hb2) _ _).1⟩
set_option maxRecDepth 1000000 in
set_option maxHeartbeats 40000000 in
theorem walk_some (b off n cap : Nat) (xs ys : Nat → Nat) (i1 : Int) (wi1 : (Lit.int .i64 i1).wf = true) (w : World) (hreach : (n + 1) * 16 ≤ 140737488351232) (hcap : n + 1 ≤ cap) (hb0 : b < w.heap.size) (ho : ∀ j, j < n + 1 → okK .f64 (xs j)) (hp : ∀ j, j < n + 1 → okK .f64 (ys j))
    (hc : ∀ i, i < n + 1 → w.cell? ⟨b, off + i * 2, none⟩ = some (.float .f64 (xs i)) ∧ w.cell? ⟨b, off + i * 2 + 1, none⟩ = some (.float .f64 (ys i))) :
    Calls Try.prog 7 #[.slice (some ⟨b, off, none⟩) (n + 1) cap, .int .i64 i1] w fun e w' => e = .returned (.bool true) ∧ Below w.heap.size w w' := by
  have al := World.cell?_alloc_some
  have c1 := cmp_eq .f64
  have hml : n + 1 ≤ maxLen := by unfold maxLen; omega
  have hpos : ((n : Int) + 1 > 0) := by omega
  go_enter Try.func7, Try.ntmps7
  go_wp2_with fail
  refine (balive_any _).mono ?_
  rintro e w1 ⟨rfl, hb1⟩
  have hc1 : ∀ i, i < n + 1 → w1.cell? ⟨b, off + i * 2, none⟩ = some (.float .f64 (xs i)) ∧ w1.cell? ⟨b, off + i * 2 + 1, none⟩ = some (.float .f64 (ys i)) := fun i hi => ⟨keep hb1 (hc i hi).1, keep hb1 (hc i hi).2⟩
  go_wp2_with fail
  refine (xOf_some b off n cap xs ys _ hml hcap (Nat.lt_of_lt_of_le hb0 hb1.size) hc1).mono ?_
  rintro e w2 ⟨rfl, hb2⟩
  obtain ⟨W0, hW0⟩ : ∃ W, W = w2.alloc (Obj.cells #[.float .f64 (lowK xs n), .float .f64 (lowK ys n), .float .f64 (highK xs n), .float .f64 (highK ys n)] 26) := ⟨_, rfl⟩
  have B12 : Bel w1 W0 := by rw [hW0]; exact bl_alloc hb2 _ _
  have B02 : Bel w W0 := bl_trans hb1 B12
  have K0 : W0.cell? ⟨w2.heap.size, 0, none⟩ = some (.float .f64 (lowK xs n)) := by rw [hW0]; go_keep
  have K1 : W0.cell? ⟨w2.heap.size, 1, none⟩ = some (.float .f64 (lowK ys n)) := by rw [hW0]; go_keep
  have K2 : W0.cell? ⟨w2.heap.size, 2, none⟩ = some (.float .f64 (highK xs n)) := by rw [hW0]; go_keep
  have K3 : W0.cell? ⟨w2.heap.size, 3, none⟩ = some (.float .f64 (highK ys n)) := by rw [hW0]; go_keep
  have hc0 : ∀ i, i < n + 1 → W0.cell? ⟨b, off + i * 2, none⟩ = some (.float .f64 (xs i)) ∧ W0.cell? ⟨b, off + i * 2 + 1, none⟩ = some (.float .f64 (ys i)) := fun i hi => ⟨keep B12 (hc1 i hi).1, keep B12 (hc1 i hi).2⟩
  clear hc1 hc hb1 hb2 B12
  go_wp2
  rw [← hW0]
  clear hW0
  go_loopw [8, 9, 10, 11, 12] (fun lo hi le ri i wr => ∃ k : Nat, k ≤ n + 1 ∧ i = .int .i64 k ∧ lo = .bool (anyK ys (lowK ys n) k) ∧ hi = .bool (anyK ys (highK ys n) k) ∧ le = .bool (anyK xs (lowK xs n) k) ∧ ri = .bool (anyK xs (highK xs n) k) ∧ (∀ j, j < k → finK .f64 (xs j) = true ∧ finK .f64 (ys j) = true) ∧ Bel W0 wr) (fun _ _ _ _ i _ => n + 1 - (intOf i).toNat)
  case atStart => exact ⟨0, by omega, rfl, rfl, rfl, rfl, rfl, fun j hj => by omega, bl_refl _⟩
  case round =>
    obtain ⟨k, hk, rfl, rfl, rfl, rfl, rfl, hfin, hB⟩ := hrel
    by_cases hlt : k < n + 1
    · have x0 := keep hB (hc0 k hlt).1
      have x1 := keep hB (hc0 k hlt).2
      have bd1 : (0 : Int) ≤ (k : Int) := by omega
      have bd2 : (k : Int) < (n : Int) + 1 := by omega
      have bd3 : (k : Int).toNat = k := by omega
      cases hf : (finK .f64 (xs k) && finK .f64 (ys k))
      · go_wp2_with (first | (go_at_call 37; refine (vFinite_any _ _ _).mono ?_; rintro e w3 ⟨rfl, hb3⟩))
        go_ret
        exact ⟨rfl, (bl_trans B02 (bl_trans hB hb3)).1⟩
      · obtain ⟨fx, fy⟩ := (show finK .f64 (xs k) = true ∧ finK .f64 (ys k) = true by simpa using hf)
        have hhas := has_of (n := n) (i := k) (by omega) fx fy
        cases a1 : anyK xs (lowK xs n) k <;> cases a2 : anyK xs (highK xs n) k <;> cases a3 : anyK ys (lowK ys n) k <;> cases a4 : anyK ys (highK ys n) k
        all_goals
          go_wp2_with (first | (go_at_call 37; refine (vFinite_any _ _ _).mono ?_; rintro e w3 ⟨rfl, hb3⟩; have y0 := keep hb3 x0; have y1 := keep hb3 x1; have k0 := keep hb3 (keep hB K0); have k1 := keep hb3 (keep hB K1); have k2 := keep hb3 (keep hB K2); have k3 := keep hb3 (keep hB K3); have B3 := bl_trans hB hb3))
          go_region
          all_goals go_wp2
          all_goals go_region
          all_goals go_wp2
          all_goals go_region
          all_goals go_wp2
          all_goals go_region
          all_goals go_wp2
          all_goals go_region_with (first | (go_at_call 21; refine (xHas_any _ _ _ _ _ _ _).mono ?_; rintro e w4 ⟨rfl, hb4⟩; have B4 : Bel W0 w4 := bl_trans (by first | exact B3 | exact bl_drew B3 | exact bl_drewN B3 _ | exact bl_drew (bl_drew (bl_drew (bl_drew (bl_drew B3)))) | (repeat (first | exact B3 | apply bl_drew | apply bl_drewN))) hb4))
          all_goals go_wp2
          all_goals
            refine ⟨⟨k + 1, by omega, by go_num, ?_, ?_, ?_, ?_, ?_, B4⟩, by simp [intOf]; omega⟩
            · simp [anyK, a1, a2, a3, a4]
            · simp [anyK, a1, a2, a3, a4]
            · simp [anyK, a1, a2, a3, a4]
            · simp [anyK, a1, a2, a3, a4]
            · intro j hj
              by_cases c : j = k
              · subst c; exact ⟨fx, fy⟩
              · exact hfin j (by omega)
    · have hkn : k = n + 1 := by omega
      subst hkn
      have FX : ∀ i, i < n + 1 → finK .f64 (xs i) = true := fun i hi => (hfin i hi).1
      have FY : ∀ i, i < n + 1 → finK .f64 (ys i) = true := fun i hi => (hfin i hi).2
      obtain ⟨e1, e2, _, _⟩ := ends_of ho FX
      obtain ⟨e3, e4, _, _⟩ := ends_of hp FY
      have hchk : chkN (bChk (lowK xs n) (lowK ys n) (highK xs n) (highK ys n)) = 0 := by rw [chk_of ho hp FX FY]; rfl
      have p0 := keep hB K0
      have p1 := keep hB K1
      have p2 := keep hB K2
      have p3 := keep hB K3
      have nz : ((n : Int) + 1) ≠ 0 := by omega
      obtain ⟨K, hKn, hK⟩ : ∃ K : Nat, K < n + 1 ∧ (wrap64 (i1.tmod ((n : Int) + 1) + ((n : Int) + 1))).tmod ((n : Int) + 1) = (K : Int) := by
        have hq := Int.natAbs_tmod i1 ((n : Int) + 1)
        have hq2 : i1.natAbs % ((n : Int) + 1).natAbs < ((n : Int) + 1).natAbs := Nat.mod_lt _ (by omega)
        generalize i1.tmod ((n : Int) + 1) = y at *
        have hw : wrap64 (y + ((n : Int) + 1)) = y + ((n : Int) + 1) := by unfold wrap64; omega
        rw [hw, Int.tmod_eq_emod_of_nonneg (by omega)]
        have h1 := Int.emod_nonneg (y + ((n : Int) + 1)) nz
        have h2 := Int.emod_lt_of_pos (y + ((n : Int) + 1)) (show (0 : Int) < (n : Int) + 1 by omega)
        exact ⟨((y + ((n : Int) + 1)) % ((n : Int) + 1)).toNat, by omega, by omega⟩
      cases K with
      | zero =>
        simp only [Int.natCast_zero] at hK
        go_wp2_with (first | (go_at_call 12; refine (xCheck_any _ _ _ _ _).mono ?_; rintro e w5 ⟨rfl, hb5⟩; have B5 := bl_trans hB hb5) | (go_at_call 32; fail))
        have hb5b : b < w5.heap.size := Nat.lt_of_lt_of_le hb0 (bl_trans B02 B5).size
        refine (xOf_none _ _ _).mono ?_
        rintro e w6 ⟨rfl, hb6⟩
        have B6 : Bel W0 (w6.alloc (Obj.cells #[.float .f64 0, .float .f64 0, .float .f64 0, .float .f64 0] 26)) := bl_alloc (bl_trans B5 hb6) _ _
        have hb6b : b < (w6.alloc (Obj.cells #[.float .f64 0, .float .f64 0, .float .f64 0, .float .f64 0] 26)).heap.size := Nat.lt_of_lt_of_le hb0 (bl_trans B02 B6).size
        go_wp2_with fail
        refine (xOf_some b off n cap xs ys _ hml hcap hb6b (fun i hi => ⟨keep B6 (hc0 i hi).1, keep B6 (hc0 i hi).2⟩)).mono ?_
        rintro e w7 ⟨rfl, hb7⟩
        obtain ⟨W9, hW9⟩ : ∃ W, W = w7.alloc (Obj.cells #[.float .f64 (lowK xs n), .float .f64 (lowK ys n), .float .f64 (highK xs n), .float .f64 (highK ys n)] 26) := ⟨_, rfl⟩
        have B9 : Bel W0 W9 := by rw [hW9]; exact bl_alloc (bl_trans B6 hb7) _ _
        have B79 : Bel (w6.alloc (Obj.cells #[.float .f64 0, .float .f64 0, .float .f64 0, .float .f64 0] 26)) W9 := by rw [hW9]; exact bl_alloc hb7 _ _
        have M0 : W9.cell? ⟨w2.heap.size, 0, none⟩ = some (.float .f64 (lowK xs n)) := keep B9 K0
        have M1 : W9.cell? ⟨w2.heap.size, 1, none⟩ = some (.float .f64 (lowK ys n)) := keep B9 K1
        have M2 : W9.cell? ⟨w2.heap.size, 2, none⟩ = some (.float .f64 (highK xs n)) := keep B9 K2
        have M3 : W9.cell? ⟨w2.heap.size, 3, none⟩ = some (.float .f64 (highK ys n)) := keep B9 K3
        have C0 : W9.cell? ⟨w6.heap.size, 0, none⟩ = some (.float .f64 0) := keep B79 (by go_keep)
        have C1 : W9.cell? ⟨w6.heap.size, 1, none⟩ = some (.float .f64 0) := keep B79 (by go_keep)
        have C2 : W9.cell? ⟨w6.heap.size, 2, none⟩ = some (.float .f64 0) := keep B79 (by go_keep)
        have C3 : W9.cell? ⟨w6.heap.size, 3, none⟩ = some (.float .f64 0) := keep B79 (by go_keep)
        have D0 : W9.cell? ⟨w7.heap.size, 0, none⟩ = some (.float .f64 (lowK xs n)) := by rw [hW9]; go_keep
        have D1 : W9.cell? ⟨w7.heap.size, 1, none⟩ = some (.float .f64 (lowK ys n)) := by rw [hW9]; go_keep
        have D2 : W9.cell? ⟨w7.heap.size, 2, none⟩ = some (.float .f64 (highK xs n)) := by rw [hW9]; go_keep
        have D3 : W9.cell? ⟨w7.heap.size, 3, none⟩ = some (.float .f64 (highK ys n)) := by rw [hW9]; go_keep
        have S1 : w2.heap.size < W9.heap.size := World.block_lt_of_cell? W9 _ M0
        have S2 : w6.heap.size < W9.heap.size := World.block_lt_of_cell? W9 _ C0
        have S3 : w7.heap.size < W9.heap.size := World.block_lt_of_cell? W9 _ D0
        have B := hide (bl_trans B02 B9)
        go_wp2
        rw [← hW9]
        clear hW9 B79
        have BN := belBy_some W9
        have zM0 := belBy_cell (W := W9) M0
        have zM1 := belBy_cell (W := W9) M1
        have zM2 := belBy_cell (W := W9) M2
        have zM3 := belBy_cell (W := W9) M3
        have zC0 := belBy_cell (W := W9) C0
        have zC1 := belBy_cell (W := W9) C1
        have zC2 := belBy_cell (W := W9) C2
        have zC3 := belBy_cell (W := W9) C3
        have zD0 := belBy_cell (W := W9) D0
        have zD1 := belBy_cell (W := W9) D1
        have zD2 := belBy_cell (W := W9) D2
        have zD3 := belBy_cell (W := W9) D3
        refine wp_region_quiet_bel (by kernel_rfl) (by kernel_rfl) ?_
        repeat (go_big_quiet_step (first | (go_at_call 15; exact calls_bel (xJoin_any _ _ _ _ _ _ _ _ _)) | (go_at_call 14; exact calls_bel (bis_true _ _ _ _ _ _ _ _ _ (by first | exact ⟨smK_self _ _, smK_self _ _, smK_self _ _, smK_self _ _⟩ | (rw [j1, j2, j3, j4]; exact ⟨smK_self _ _, smK_self _ _, smK_self _ _, smK_self _ _⟩))))))
        refine wpQuiet_nil ?_
        intro _ hw'
        obtain ⟨pp, rfl⟩ := hw'
        go_wp2
        go_ret
        exact ⟨rfl, (bl_trans (bl_trans B02 B9) pp.h).1⟩
      | succ K =>
        simp only [Int.natCast_add, Int.natCast_one] at hK
        obtain ⟨m, hm⟩ : ∃ m, K + 1 + m = n := ⟨n - (K + 1), by omega⟩
        have hm1 : n + 1 - (K + 1) = m + 1 := by omega
        have hm2 : n - K = m + 1 := by omega
        have hm3 : K ≤ n := by omega
        have hm4 : K < n := by omega
        have bk1 : ((K : Int) + 1).toNat = K + 1 := by omega
        have bk2 : (0 : Int) ≤ (K : Int) + 1 := by omega
        have bk3 : (K : Int) + 1 ≤ (n : Int) + 1 := by omega
        have bk4 : K + 1 ≤ cap := by omega
        have bk5 : (K : Int) + 1 ≤ (cap : Int) := by omega
        have bk6 : (K : Int) ≤ (n : Int) := by omega
        have bk7 : (0 : Int) < (K : Int) + 1 := by omega
        have bk8 : K + 1 ≤ n + 1 := by omega
        have hno : ∀ i, i ≤ n → okK .f64 (xs i) ∧ nanK .f64 (xs i) = false := fun i hi => ⟨ho i (by omega), fin_num (FX i (by omega))⟩
        have hnp : ∀ i, i ≤ n → okK .f64 (ys i) ∧ nanK .f64 (ys i) = false := fun i hi => ⟨hp i (by omega), fin_num (FY i (by omega))⟩
        have j1 := low_join (k := K) hno (by omega)
        have j2 := low_join (k := K) hnp (by omega)
        have j3 := high_join (k := K) hno (by omega)
        have j4 := high_join (k := K) hnp (by omega)
        rw [show n - (K + 1) = m by omega] at j1 j2 j3 j4
        go_wp2_with (first | (go_at_call 12; refine (xCheck_any _ _ _ _ _).mono ?_; rintro e w5 ⟨rfl, hb5⟩; have B5 := bl_trans hB hb5) | (go_at_call 32; fail))
        have hb5b : b < w5.heap.size := Nat.lt_of_lt_of_le hb0 (bl_trans B02 B5).size
        refine (xOf_some b off K cap xs ys _ (by unfold maxLen at hml ⊢; omega) (by omega) hb5b (fun i hi => ⟨keep B5 (hc0 i (by omega)).1, keep B5 (hc0 i (by omega)).2⟩)).mono ?_
        rintro e w6 ⟨rfl, hb6⟩
        have B6 : Bel W0 (w6.alloc (Obj.cells #[.float .f64 (lowK xs K), .float .f64 (lowK ys K), .float .f64 (highK xs K), .float .f64 (highK ys K)] 26)) := bl_alloc (bl_trans B5 hb6) _ _
        have hb6b : b < (w6.alloc (Obj.cells #[.float .f64 (lowK xs K), .float .f64 (lowK ys K), .float .f64 (highK xs K), .float .f64 (highK ys K)] 26)).heap.size := Nat.lt_of_lt_of_le hb0 (bl_trans B02 B6).size
        go_wp2_with fail
        refine (xOf_some b (off + (K + 1) * 2) m (cap - (K + 1)) (fun i => xs (K + 1 + i)) (fun i => ys (K + 1 + i)) _ (by unfold maxLen at hml ⊢; omega) (by omega) hb6b (fun i hi => ⟨by have h := keep B6 (hc0 (K + 1 + i) (by omega)).1; rw [show off + (K + 1) * 2 + i * 2 = off + (K + 1 + i) * 2 by omega]; exact h, by have h := keep B6 (hc0 (K + 1 + i) (by omega)).2; rw [show off + (K + 1) * 2 + i * 2 + 1 = off + (K + 1 + i) * 2 + 1 by omega]; exact h⟩)).mono ?_
        rintro e w7 ⟨rfl, hb7⟩
        obtain ⟨W9, hW9⟩ : ∃ W, W = w7.alloc (Obj.cells #[.float .f64 (lowK (fun i => xs (K + 1 + i)) m), .float .f64 (lowK (fun i => ys (K + 1 + i)) m), .float .f64 (highK (fun i => xs (K + 1 + i)) m), .float .f64 (highK (fun i => ys (K + 1 + i)) m)] 26) := ⟨_, rfl⟩
        have B9 : Bel W0 W9 := by rw [hW9]; exact bl_alloc (bl_trans B6 hb7) _ _
        have B79 : Bel (w6.alloc (Obj.cells #[.float .f64 (lowK xs K), .float .f64 (lowK ys K), .float .f64 (highK xs K), .float .f64 (highK ys K)] 26)) W9 := by rw [hW9]; exact bl_alloc hb7 _ _
        have M0 : W9.cell? ⟨w2.heap.size, 0, none⟩ = some (.float .f64 (lowK xs n)) := keep B9 K0
        have M1 : W9.cell? ⟨w2.heap.size, 1, none⟩ = some (.float .f64 (lowK ys n)) := keep B9 K1
        have M2 : W9.cell? ⟨w2.heap.size, 2, none⟩ = some (.float .f64 (highK xs n)) := keep B9 K2
        have M3 : W9.cell? ⟨w2.heap.size, 3, none⟩ = some (.float .f64 (highK ys n)) := keep B9 K3
        have C0 : W9.cell? ⟨w6.heap.size, 0, none⟩ = some (.float .f64 (lowK xs K)) := keep B79 (by go_keep)
        have C1 : W9.cell? ⟨w6.heap.size, 1, none⟩ = some (.float .f64 (lowK ys K)) := keep B79 (by go_keep)
        have C2 : W9.cell? ⟨w6.heap.size, 2, none⟩ = some (.float .f64 (highK xs K)) := keep B79 (by go_keep)
        have C3 : W9.cell? ⟨w6.heap.size, 3, none⟩ = some (.float .f64 (highK ys K)) := keep B79 (by go_keep)
        have D0 : W9.cell? ⟨w7.heap.size, 0, none⟩ = some (.float .f64 (lowK (fun i => xs (K + 1 + i)) m)) := by rw [hW9]; go_keep
        have D1 : W9.cell? ⟨w7.heap.size, 1, none⟩ = some (.float .f64 (lowK (fun i => ys (K + 1 + i)) m)) := by rw [hW9]; go_keep
        have D2 : W9.cell? ⟨w7.heap.size, 2, none⟩ = some (.float .f64 (highK (fun i => xs (K + 1 + i)) m)) := by rw [hW9]; go_keep
        have D3 : W9.cell? ⟨w7.heap.size, 3, none⟩ = some (.float .f64 (highK (fun i => ys (K + 1 + i)) m)) := by rw [hW9]; go_keep
        have S1 : w2.heap.size < W9.heap.size := World.block_lt_of_cell? W9 _ M0
        have S2 : w6.heap.size < W9.heap.size := World.block_lt_of_cell? W9 _ C0
        have S3 : w7.heap.size < W9.heap.size := World.block_lt_of_cell? W9 _ D0
        have B := hide (bl_trans B02 B9)
        go_wp2
        rw [← hW9]
        clear hW9 B79
        have BN := belBy_some W9
        have zM0 := belBy_cell (W := W9) M0
        have zM1 := belBy_cell (W := W9) M1
        have zM2 := belBy_cell (W := W9) M2
        have zM3 := belBy_cell (W := W9) M3
        have zC0 := belBy_cell (W := W9) C0
        have zC1 := belBy_cell (W := W9) C1
        have zC2 := belBy_cell (W := W9) C2
        have zC3 := belBy_cell (W := W9) C3
        have zD0 := belBy_cell (W := W9) D0
        have zD1 := belBy_cell (W := W9) D1
        have zD2 := belBy_cell (W := W9) D2
        have zD3 := belBy_cell (W := W9) D3
        refine wp_region_quiet_bel (by kernel_rfl) (by kernel_rfl) ?_
        repeat (go_big_quiet_step (first | (go_at_call 15; exact calls_bel (xJoin_any _ _ _ _ _ _ _ _ _)) | (go_at_call 14; exact calls_bel (bis_true _ _ _ _ _ _ _ _ _ (by first | exact ⟨smK_self _ _, smK_self _ _, smK_self _ _, smK_self _ _⟩ | (rw [j1, j2, j3, j4]; exact ⟨smK_self _ _, smK_self _ _, smK_self _ _, smK_self _ _⟩))))))
        refine wpQuiet_nil ?_
        intro _ hw'
        obtain ⟨pp, rfl⟩ := hw'
        go_wp2
        go_ret
        exact ⟨rfl, (bl_trans (bl_trans B02 B9) pp.h).1⟩

/-- a row of ways: none, or len of them in cells, with room for cap -/
def IsWays (w : World) (a : Option Addr) (len cap : Nat) : Prop :=
  (a = none ∧ len = 0 ∧ cap = 0) ∨ ∃ (x : Addr) (xs ys : Nat → Nat), a = some x ∧ len ≤ cap ∧ cap ≤ maxLen ∧ len * 16 ≤ 140737488351232 ∧ ∀ i, i < len → w.cell? (x.add (i * 2)) = some (.float .f64 (xs i)) ∧ w.cell? (x.add (i * 2 + 1)) = some (.float .f64 (ys i)) ∧ okK .f64 (xs i) ∧ okK .f64 (ys i)
theorem walk (a : Option Addr) (len cap : Nat) (i1 : Int) (wi1 : (Lit.int .i64 i1).wf = true) (w : World) (h : IsWays w a len cap) :
    Calls Try.prog 7 #[.slice a len cap, .int .i64 i1] w fun e w' => e = .returned (.bool true) ∧ Below w.heap.size w w' := by
  rcases h with ⟨rfl, rfl, rfl⟩ | ⟨x, xs, ys, rfl, hl, hm, hr, hcell⟩
  · exact walk_nil i1 wi1 _
  · cases len with
    | zero => exact walk_zero _ _ i1 wi1 _
    | succ n =>
      obtain ⟨b, off, spot⟩ := x
      have hspot : spot = none := by simpa [Addr.add] using World.cell?_spot (hcell 0 (by omega)).1
      subst hspot
      have hb : b < w.heap.size := by
        have := lt_of_cell (hcell 0 (by omega)).1
        simpa [Addr.add] using this
      exact walk_some b off n cap xs ys i1 wi1 w hr hl hb (fun j hj => (hcell j hj).2.2.1) (fun j hj => (hcell j hj).2.2.2) fun j hj => ⟨by have h := (hcell j hj).1; rw [add_plain] at h; exact h, by have h := (hcell j hj).2.1; rw [add_plain, ← Nat.add_assoc] at h; exact h⟩

set_option maxRecDepth 100000 in
theorem lifted (os : Os) (started : os.Started) (H : Type) (enc : TypeId × Value → H) :
    ReturnsInHanded {} Try.checked os 7 .any (Rows.boxLeastSpec.pre6 enc Try.prog Try.f7 Rows.boxLeastRow.domain false) (Rows.boxLeastSpec.post enc Try.prog Try.f7 false true false false) := by
  refine returnsInHanded_of_change_sized (C := Try.checked) own started (by kernel_rfl) Try.func7
    (ChangeSpec.witness6 (enc := enc) (C := Try.checked) false ⟨#[], #[.slice none 0 0, .int .i64 0], []⟩ 8 (by kernel_rfl) (by kernel_rfl) (by kernel_rfl) (by kernel_rfl)) ?_
  intro W base args ds gs before hval0 hW hcnd hsz0 _
  have hsz : (DataW.weightsEach Try.prog (Try.f7.params.toList ++ Rows.boxLeastSpec.plain.varTypes Try.prog) (ds ++ gs)).all (· ≤ reachBytes) = true := hsz0
  have hval : ∀ (j : Nat) t v, Try.f7.params[j]? = some t → args[j]? = some v → Value.okWide Try.prog W .any base t v := hval0
  have hW' := hW
  obtain ⟨p, q, hA0, hV, rfl, hfz, hnd⟩ := hW
  have hA : DataW.TrodAll enc Try.prog W 0 (fun _ => true) true Try.f7.params.toList args.toList ds p := hA0
  rw [Try.params7] at hA hval hsz
  obtain ⟨v0, vs0, d0, ds0, p0, q0, hargs, rfl, rfl, h0, r0⟩ := trodAll_cons hA
  obtain ⟨v1, vs1, d1, ds1, p1, q1, rfl, rfl, rfl, h1, r1⟩ := trodAll_cons r0
  obtain ⟨rfl, rfl, rfl⟩ := trodAll_nil r1
  obtain rfl : args = #[v0, v1] := by cases args; simp_all
  obtain ⟨rfl, rfl⟩ := trodVars_none hV
  obtain ⟨a0, len0, cap0, rfl⟩ := okWide_slice Try.underlying40 (hval 0 40 v0 rfl rfl)
  obtain ⟨i1, rfl, rfl, rfl, wi1⟩ := open_int Try.underlying3 (hval 1 3 v1 rfl rfl) h1
  have k0 := h0
  have lt0 : ∀ x ∈ p0, x.block < W.heap.size := by obtain ⟨m, hm⟩ := k0; exact DataW.trod_lt m _ _ _ hm
  have w0 : IsWays W a0 len0 cap0 := by
    obtain ⟨fuel, hf⟩ := h0
    rcases Go.Deep.open_slice_pairs Try.underlying40 Try.underlying24 (by kernel_rfl) rfl rfl (by kernel_rfl) (by kernel_rfl) hf with ⟨hcs, _⟩ | ⟨x, l, c, m, n, V0, V1, D0, D1, P0, P1, hcs, _, hl, hm, hmm, hx, hcell⟩
    · simp [Value.cells] at hcs
      exact .inl hcs
    · simp [Value.cells] at hcs
      obtain ⟨rfl, rfl, rfl⟩ := hcs
      simp only [Prod.mk.injEq] at hx
      obtain ⟨rfl, rfl⟩ := hx
      have hr := sized_slice hsz (j := 0) (t := 40) (e := 24) rfl rfl Try.underlying40
      rw [show Try.prog.bytesOf 24 = 16 by kernel_rfl] at hr
      simp only [List.length_map, List.length_range, reachBytes] at hr
      have hlm : len0 ≤ m := by rw [hmm]; split <;> omega
      have V : ∀ i, ∃ xy : Nat × Nat, i < m → V0 i = .float .f64 xy.1 ∧ V1 i = .float .f64 xy.2 ∧ okK .f64 xy.1 ∧ okK .f64 xy.2 := by
        intro i
        by_cases hi : i < m
        · obtain ⟨_, _, h3, h4⟩ := hcell i hi
          obtain ⟨x, e0, _, wx⟩ := trod_fl Try.underlying22 h3
          obtain ⟨y, e1, _, wy⟩ := trod_fl Try.underlying22 h4
          simp at e0 e1
          exact ⟨(x, y), fun _ => ⟨e0, e1, wf_f64 wx, wf_f64 wy⟩⟩
        · exact ⟨(0, 0), fun h => absurd h hi⟩
      have V' := Classical.axiomOfChoice V
      obtain ⟨f, hf'⟩ := V'
      refine .inr ⟨x, fun i => (f i).1, fun i => (f i).2, rfl, hl, hm, by omega, fun i hi => ?_⟩
      obtain ⟨e0, e1, o0, o1⟩ := hf' i (by omega)
      obtain ⟨c0, c1, _, _⟩ := hcell i (by omega)
      rw [e0] at c0
      rw [e1] at c1
      exact ⟨c0, c1, o0, o1⟩
  clear hA0 hval0 hsz0
  refine (walk a0 len0 cap0 i1 wi1 W w0).mono fun e W' ⟨he, bel0⟩ => ?_
  have bel := bel0
  subst he
  exact ⟨_, rfl, _, _, _, [], _, [], hW', trodAll_mk1 (shut_bool Try.underlying4 _), (trodAll_cons_mk (Below.trod laidOut (by kernel_rfl) (of_decide_eq_true (by kernel_rfl)) k0 bel lt0) (trodAll_cons_mk (shut_int Try.underlying3 wi1) trodAll_mk0)), rfl, bel.frame _, fun h => by cases h⟩

theorem over : Rows.boxLeastRow.holds Try.pinned (OpenSpec.ofChange Rows.boxLeastSpec) :=
  OpenClaim.holds_of_wide 7 Try.f7 rfl rfl rfl rfl rfl rfl rfl ⟨rfl, rfl, rfl, rfl, rfl⟩ rfl rfl rfl rfl rfl (by kernel_rfl) Try.func7 (by kernel_rfl)
    (of_decide_eq_true (by kernel_rfl)) (by unfold Func.isWrapper; first | (rw [if_pos (by decide +kernel)]; kernel_rfl) | (rw [if_neg (by decide +kernel)]; exact ⟨rfl, rfl⟩))
    (fun os started H enc _ => lifted os started H enc)

theorem proved : Rows.BoxLeastSaid :=
  over
#print axioms proved
end Go.Proofs.Ytdpbkfdccoogkaa.boxLeast
