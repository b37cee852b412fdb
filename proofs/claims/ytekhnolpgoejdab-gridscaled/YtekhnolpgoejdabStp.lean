/-
  Plain facts on floats, more: rounding to the nearest rung, sums and products of finite floats, signs turned. No program is named here.
-/
import Derived.Test.YtekhnolpgoejdabFlt
import Derived.Sort.LotA
namespace Go.Proofs.Ytekhnolpgoejdab
open Go.Sort
set_option linter.unusedSimpArgs false
set_option linter.unusedVariables false

/-! ### A stable sort: in the order 'less, or alike and earlier' all is one sorting; what a merge in place does -/
section
variable {α : Type}
/-- less, or alike and earlier -/
def stT (lt : α → α → Bool) (pos : α → Nat) (x y : α) : Bool := lt x y || (!lt y x && decide (pos x < pos y))
theorem swo_stT {lt : α → α → Bool} {pos : α → Nat} (h : SWO lt) : SWO (stT lt pos) where
  irrefl x := by simp [stT, h.irrefl]
  trans x y z h1 h2 := by
    have t := h.trans x y z; have n1 := h.ntrans x z y; have n2 := h.ntrans y x z; have n3 := h.ntrans z y x
    simp only [stT, Bool.or_eq_true, Bool.and_eq_true, Bool.not_eq_true', decide_eq_true_eq] at h1 h2 ⊢
    cases e1 : lt x y <;> cases e2 : lt y z <;> cases e3 : lt x z <;> cases e4 : lt z y <;> cases e5 : lt y x <;> cases e6 : lt z x <;> simp_all <;> omega
  ntrans x y z h1 h2 := by
    have n0 := h.ntrans x y z; have n1 := h.ntrans y z x; have n2 := h.ntrans z x y
    simp only [stT, Bool.or_eq_false_iff, Bool.and_eq_false_iff, Bool.not_eq_false', decide_eq_false_iff_not] at h1 h2 ⊢
    cases e1 : lt x y <;> cases e2 : lt y z <;> cases e3 : lt x z <;> cases e4 : lt z y <;> cases e5 : lt y x <;> cases e6 : lt z x <;> simp_all <;> omega
theorem stT_back {lt : α → α → Bool} {pos : α → Nat} {x y : α} (h : pos x < pos y) : stT lt pos y x = lt y x := by
  simp [stT, show ¬ pos y < pos x by omega]
theorem swo_le {lt : α → α → Bool} (h : SWO lt) {x y z : α} (h1 : lt y x = false) (h2 : lt z y = false) : lt z x = false := h.ntrans z y x h2 h1

variable [Inhabited α]
/-- two rows side by side, each in order, the first one's all earlier -/
structure Mrg (lt : α → α → Bool) (pos : α → Nat) (a m b : Nat) (d : Array α) : Prop where
  sl : SortedIn (stT lt pos) a m d
  sr : SortedIn (stT lt pos) m b d
  cr : ∀ i j, a ≤ i → i < m → m ≤ j → j < b → pos d[i]! < pos d[j]!
variable {lt : α → α → Bool} {pos : α → Nat}
theorem sorted_le {T : α → α → Bool} (hO : SWO T) {a b : Nat} {d : Array α} (h : SortedIn T a b d) {i j : Nat} (h1 : a ≤ i) (h2 : i ≤ j) (h3 : j < b) : T d[j]! d[i]! = false := by
  rcases Nat.lt_or_ge i j with h' | h'
  · exact h i j h1 h' h3
  · have : i = j := by omega
    subst this; exact hO.irrefl _
/-- what lies farther left in the first and farther right in the second is no less in order -/
theorem Mrg.mono (hO : SWO lt) {a m b : Nat} {d : Array α} (h : Mrg lt pos a m b d) {i i' j j' : Nat} (h1 : a ≤ i') (h2 : i' ≤ i) (h3 : i < m) (h4 : m ≤ j) (h5 : j ≤ j') (h6 : j' < b) (hl : lt d[j]! d[i]! = false) : lt d[j']! d[i']! = false := by
  have hT := swo_stT (pos := pos) hO
  have e1 : stT lt pos d[i]! d[i']! = false := sorted_le hT h.sl h1 h2 h3
  have e2 : stT lt pos d[j]! d[i]! = false := by rw [stT_back (h.cr i j (by omega) h3 h4 (by omega))]; exact hl
  have e3 : stT lt pos d[j']! d[j]! = false := sorted_le hT h.sr h4 h5 h6
  have e4 := swo_le hT (swo_le hT e1 e2) e3
  rwa [stT_back (h.cr i' j' h1 (by omega) (by omega) h6)] at e4
theorem Mrg.mono' (hO : SWO lt) {a m b : Nat} {d : Array α} (h : Mrg lt pos a m b d) {i i' j j' : Nat} (h1 : a ≤ i') (h2 : i' ≤ i) (h3 : i < m) (h4 : m ≤ j) (h5 : j ≤ j') (h6 : j' < b) (hl : lt d[j']! d[i']! = true) : lt d[j]! d[i]! = true := by
  cases e : lt d[j]! d[i]! with
  | true => rfl
  | false => rw [h.mono hO h1 h2 h3 h4 h5 h6 e] at hl; cases hl
/-- one alone is put among the others behind it -/
theorem Mrg.first (hO : SWO lt) {a b i : Nat} {d d' : Array α} (h : Mrg lt pos a (a + 1) b d) (hi : a + 1 ≤ i) (hib : i ≤ b) (hl : ∀ k, a + 1 ≤ k → k < i → lt d[k]! d[a]! = true) (hg : ∀ k, i ≤ k → k < b → lt d[k]! d[a]! = false)
    (e1 : ∀ k, a ≤ k → k < i - 1 → d'[k]! = d[k + 1]!) (e2 : d'[i - 1]! = d[a]!) (e3 : ∀ k, i ≤ k → d'[k]! = d[k]!) : SortedIn (stT lt pos) a b d' := by
  have hT := swo_stT (pos := pos) hO
  intro p q h1 h2 h3
  rcases Nat.lt_or_ge q (i - 1) with hq | hq
  · rw [e1 q (by omega) hq, e1 p h1 (by omega)]; exact h.sr _ _ (by omega) (by omega) (by omega)
  · rcases Nat.lt_or_ge p (i - 1) with hp | hp
    · rw [e1 p h1 hp]
      rcases Nat.lt_or_ge q i with hq' | hq'
      · have : q = i - 1 := by omega
        subst this; rw [e2]
        have l1 := hl (p + 1) (by omega) (by omega)
        have l2 : stT lt pos d[p + 1]! d[a]! = true := by rw [stT_back (h.cr a (p + 1) (by omega) (by omega) (by omega) (by omega))]; exact l1
        cases e : stT lt pos d[a]! d[p + 1]! with
        | false => rfl
        | true => have := hT.trans _ _ _ l2 e; rw [hT.irrefl] at this; cases this
      · rw [e3 q hq']; exact h.sr _ _ (by omega) (by omega) (by omega)
    · have hq' : i ≤ q := by omega
      rw [e3 q hq']
      rcases Nat.lt_or_ge p i with hp' | hp'
      · have : p = i - 1 := by omega
        subst this; rw [e2, stT_back (h.cr a q (by omega) (by omega) (by omega) h3)]; exact hg q hq' h3
      · rw [e3 p hp']; exact h.sr _ _ (by omega) (by omega) (by omega)
/-- one alone is put among the others ahead of it -/
theorem Mrg.last (hO : SWO lt) {a m i : Nat} {d d' : Array α} (h : Mrg lt pos a m (m + 1) d) (hi : a ≤ i) (him : i ≤ m) (hl : ∀ k, a ≤ k → k < i → lt d[m]! d[k]! = false) (hg : ∀ k, i ≤ k → k < m → lt d[m]! d[k]! = true)
    (e1 : ∀ k, i < k → k ≤ m → d'[k]! = d[k - 1]!) (e2 : d'[i]! = d[m]!) (e3 : ∀ k, k < i → d'[k]! = d[k]!) : SortedIn (stT lt pos) a (m + 1) d' := by
  have hT := swo_stT (pos := pos) hO
  intro p q h1 h2 h3
  rcases Nat.lt_or_ge q i with hq | hq
  · rw [e3 q hq, e3 p (by omega)]; exact h.sl _ _ (by omega) (by omega) (by omega)
  · rcases Nat.lt_or_ge p i with hp | hp
    · rw [e3 p hp]
      rcases Nat.lt_or_ge i q with hq' | hq'
      · rw [e1 q hq' (by omega)]; exact h.sl _ _ (by omega) (by omega) (by omega)
      · have : q = i := by omega
        subst this; rw [e2, stT_back (h.cr p m (by omega) (by omega) (by omega) (by omega))]; exact hl p h1 hp
    · rw [e1 q (by omega) (by omega)]
      rcases Nat.lt_or_ge i p with hp' | hp'
      · rw [e1 p hp' (by omega)]; exact h.sl _ _ (by omega) (by omega) (by omega)
      · have : p = i := by omega
        subst this; rw [e2]
        have l1 := hg (q - 1) (by omega) (by omega)
        have l2 : stT lt pos d[m]! d[q - 1]! = true := by rw [stT_back (h.cr (q - 1) m (by omega) (by omega) (by omega) (by omega))]; exact l1
        cases e : stT lt pos d[q - 1]! d[m]! with
        | false => rfl
        | true => have := hT.trans _ _ _ l2 e; rw [hT.irrefl] at this; cases this
/-- what a rotation leaves -/
def rotF (d : Array α) (a m b k : Nat) : α := if k < a ∨ b ≤ k then d[k]! else if k < a + (b - m) then d[m + (k - a)]! else d[k - (b - m)]!
/-- the two rows cut and changed: what is left are two smaller merges, the first one's all before the second's -/
theorem Mrg.cut (hO : SWO lt) {a m b s e mid : Nat} {d d1 : Array α} (h : Mrg lt pos a m b d) (h1 : a ≤ s) (h2 : s ≤ m) (h3 : m ≤ e) (h4 : e ≤ b) (h5 : s + e = mid + m)
    (hx : a < s → e < b → lt d[e]! d[s - 1]! = false) (hy : s < m → m < e → lt d[e - 1]! d[s]! = true) (hr : ∀ k, d1[k]! = rotF d s m e k) :
    Mrg lt pos a s mid d1 ∧ Mrg lt pos mid e b d1 ∧ ∀ i j, a ≤ i → i < mid → mid ≤ j → j < b → stT lt pos d1[j]! d1[i]! = false := by
  have hT := swo_stT (pos := pos) hO
  have r1 : ∀ k, k < s → d1[k]! = d[k]! := fun k hk => by rw [hr, rotF, if_pos (Or.inl hk)]
  have r2 : ∀ k, s ≤ k → k < mid → d1[k]! = d[k + (m - s)]! := fun k hk hk' => by rw [hr, rotF, if_neg (by omega), if_pos (by omega), show m + (k - s) = k + (m - s) by omega]
  have r3 : ∀ k, mid ≤ k → k < e → d1[k]! = d[k - (e - m)]! := fun k hk hk' => by rw [hr, rotF, if_neg (by omega), if_neg (by omega)]
  have r4 : ∀ k, e ≤ k → d1[k]! = d[k]! := fun k hk => by rw [hr, rotF, if_pos (Or.inr hk)]
  refine ⟨⟨?_, ?_, ?_⟩, ⟨?_, ?_, ?_⟩, ?_⟩
  · intro p q p1 p2 p3; rw [r1 p (by omega), r1 q (by omega)]; exact h.sl _ _ (by omega) (by omega) (by omega)
  · intro p q p1 p2 p3; rw [r2 p (by omega) (by omega), r2 q (by omega) (by omega)]; exact h.sr _ _ (by omega) (by omega) (by omega)
  · intro p q p1 p2 p3 p4; rw [r1 p (by omega), r2 q (by omega) (by omega)]; exact h.cr _ _ (by omega) (by omega) (by omega) (by omega)
  · intro p q p1 p2 p3; rw [r3 p (by omega) (by omega), r3 q (by omega) (by omega)]; exact h.sl _ _ (by omega) (by omega) (by omega)
  · intro p q p1 p2 p3; rw [r4 p (by omega), r4 q (by omega)]; exact h.sr _ _ (by omega) (by omega) (by omega)
  · intro p q p1 p2 p3 p4; rw [r3 p (by omega) (by omega), r4 q (by omega)]; exact h.cr _ _ (by omega) (by omega) (by omega) (by omega)
  · intro p q p1 p2 p3 p4
    rcases Nat.lt_or_ge p s with hp | hp
    · rw [r1 p hp]
      rcases Nat.lt_or_ge q e with hq | hq
      · rw [r3 q p3 hq]; exact sorted_le hT h.sl (by omega) (by omega) (by omega)
      · rw [r4 q hq, stT_back (h.cr p q p1 (by omega) (by omega) p4)]
        exact h.mono hO p1 (show p ≤ s - 1 by omega) (by omega) (show m ≤ e by omega) hq p4 (hx (by omega) (by omega))
    · rw [r2 p hp p2]
      rcases Nat.lt_or_ge q e with hq | hq
      · rw [r3 q p3 hq]
        have l := hy (by omega) (by omega)
        have l' := h.mono' hO (i := q - (e - m)) (i' := s) (j := p + (m - s)) (j' := e - 1) (by omega) (by omega) (by omega) (by omega) (by omega) (by omega) l
        have l2 : stT lt pos d[p + (m - s)]! d[q - (e - m)]! = true := by rw [stT_back (h.cr _ _ (by omega) (by omega) (by omega) (by omega))]; exact l'
        cases e : stT lt pos d[q - (e - m)]! d[p + (m - s)]! with
        | false => rfl
        | true => have := hT.trans _ _ _ l2 e; rw [hT.irrefl] at this; cases this
      · rw [r4 q hq]; exact sorted_le hT h.sr (by omega) (by omega) (by omega)
theorem Mrg.none_l {a m b : Nat} {d : Array α} (h : Mrg lt pos a m b d) (e : m ≤ a ∨ b ≤ m) : SortedIn (stT lt pos) a b d := by
  intro p q h1 h2 h3
  rcases e with e | e
  · exact h.sr p q (by omega) h2 h3
  · exact h.sl p q h1 h2 (by omega)
/-- what stands in a row that is put in another order stands where it stood, or in the row -/
theorem permIn_ex {a b : Nat} {d d' : Array α} (h : PermIn a b d d') (hb : b ≤ d.size) : ∀ i, a ≤ i → i < b → ∃ k, a ≤ k ∧ k < b ∧ d'[i]! = d[k]! :=
  permIn_all d d' a b (fun x => ∃ k, a ≤ k ∧ k < b ∧ x = d[k]!) hb h (fun i h1 h2 => ⟨i, h1, h2, rfl⟩)
/-- behind two merges: all in order -/
theorem join_two {T : α → α → Bool} {a mid b : Nat} {d1 d2 d3 : Array α} (hab : a ≤ mid) (hmb : mid ≤ b) (hb : b ≤ d1.size) (hc : ∀ i j, a ≤ i → i < mid → mid ≤ j → j < b → T d1[j]! d1[i]! = false)
    (h2 : PermIn a mid d1 d2) (s2 : SortedIn T a mid d2) (h3 : PermIn mid b d2 d3) (s3 : SortedIn T mid b d3) : SortedIn T a b d3 := by
  have hs2 : d2.size = d1.size := h2.1
  have lo : ∀ i, i < mid → d3[i]! = d2[i]! := fun i hi => h3.2.1 i (Or.inl hi)
  have hi : ∀ i, mid ≤ i → d2[i]! = d1[i]! := fun i hi => h2.2.1 i (Or.inr hi)
  intro p q p1 p2 p3
  rcases Nat.lt_or_ge q mid with hq | hq
  · rw [lo q hq, lo p (by omega)]; exact s2 p q p1 p2 hq
  · rcases Nat.lt_or_ge p mid with hp | hp
    · rw [lo p hp]
      obtain ⟨k, k1, k2, k3⟩ := permIn_ex h2 (by omega) p p1 hp
      obtain ⟨l, l1, l2, l3⟩ := permIn_ex h3 (by omega) q hq p3
      rw [k3, l3, hi l l1]; exact hc k l k1 k2 l1 l2
    · exact s3 p q hp p2 p3
theorem permIn_two {a mid b : Nat} {d1 d2 d3 : Array α} (hab : a ≤ mid) (hmb : mid ≤ b) (hb : b ≤ d1.size) (h2 : PermIn a mid d1 d2) (h3 : PermIn mid b d2 d3) : PermIn a b d1 d3 :=
  permIn_trans _ _ _ _ _ (permIn_mono _ _ _ _ _ _ (Nat.le_refl _) hmb hb h2) (permIn_mono _ _ _ _ _ _ hab (Nat.le_refl _) (by rw [h2.1]; exact hb) h3)
end
end Go.Proofs.Ytekhnolpgoejdab
namespace Go.Proofs.Ytekhnolpgoejdab
open Go.Sort
set_option linter.unusedSimpArgs false
set_option linter.unusedVariables false

/-! ### A stable sort: blocks that are put in order, then merged two by two -/
section
variable {α : Type} [Inhabited α] {lt : α → α → Bool} {pos : α → Nat}
theorem permIn_any {a b : Nat} {d d' : Array α} (h : PermIn a b d d') (hb : b ≤ d.size) (i : Nat) : ∃ k, d'[i]! = d[k]! ∧ ((k = i ∧ (i < a ∨ b ≤ i)) ∨ (a ≤ k ∧ k < b ∧ a ≤ i ∧ i < b)) := by
  by_cases hi : a ≤ i ∧ i < b
  · obtain ⟨k, h1, h2, h3⟩ := permIn_ex h hb i hi.1 hi.2
    exact ⟨k, h3, .inr ⟨h1, h2, hi.1, hi.2⟩⟩
  · exact ⟨i, h.2.1 i (by omega), .inl ⟨rfl, by omega⟩⟩
/-- all ahead of a place are earlier than all behind it -/
def Cut (pos : α → Nat) (n c : Nat) (d : Array α) : Prop := ∀ i j, i < c → c ≤ j → j < n → pos d[i]! < pos d[j]!
theorem Cut.perm {n c a b : Nat} {d d' : Array α} (h : Cut pos n c d) (hp : PermIn a b d d') (hb : b ≤ n) (hn : n ≤ d.size) (hc : c ≤ a ∨ b ≤ c) : Cut pos n c d' := by
  intro i j h1 h2 h3
  obtain ⟨k, ek, hk⟩ := permIn_any hp (by omega) i
  obtain ⟨l, el, hl⟩ := permIn_any hp (by omega) j
  rw [ek, el]
  exact h k l (by omega) (by omega) (by omega)
theorem sorted_perm {T : α → α → Bool} {a b x y : Nat} {d d' : Array α} (h : SortedIn T x y d) (hp : PermIn a b d d') (hc : y ≤ a ∨ b ≤ x) : SortedIn T x y d' := by
  intro i j h1 h2 h3
  rw [hp.2.1 i (by omega), hp.2.1 j (by omega)]; exact h i j h1 h2 h3
/-- from c on: blocks of bs each, in order, earlier ones ahead -/
def Blk (lt : α → α → Bool) (pos : α → Nat) (n bs c : Nat) (d : Array α) : Prop := ∀ k, SortedIn (stT lt pos) (c + k * bs) (min (c + k * bs + bs) n) d ∧ Cut pos n (c + k * bs) d
/-- up to c: the same -/
def Bak (lt : α → α → Bool) (pos : α → Nat) (n B c : Nat) (d : Array α) : Prop := ∀ k, k * B + B ≤ c → SortedIn (stT lt pos) (k * B) (k * B + B) d ∧ Cut pos n (k * B) d
theorem Bak.step {n B q : Nat} {d d' : Array α} (h : Bak lt pos n B (q * B) d) (hB : 0 < B) (hn : n ≤ d.size) (hb : q * B + B ≤ n) (hp : PermIn (q * B) (q * B + B) d d') (hs : SortedIn (stT lt pos) (q * B) (q * B + B) d') (hc : Cut pos n (q * B) d) : Bak lt pos n B (q * B + B) d' := by
  intro k hk
  have hkq : k ≤ q := by
    have : k * B ≤ q * B := by omega
    exact Nat.le_of_mul_le_mul_right this hB
  rcases Nat.lt_or_ge k q with h' | h'
  · have h2 : (k + 1) * B ≤ q * B := Nat.mul_le_mul_right _ h'
    rw [Nat.succ_mul] at h2
    obtain ⟨s, c⟩ := h k h2
    exact ⟨sorted_perm s hp (.inl h2), c.perm hp hb hn (.inl (by omega))⟩
  · have : k = q := by omega
    subst this
    exact ⟨hs, hc.perm hp hb hn (.inl (Nat.le_refl _))⟩
/-- the last block, which may be short -/
theorem Bak.close {n B q : Nat} {d d' : Array α} (h : Bak lt pos n B (q * B) d) (hB : 0 < B) (hn : n ≤ d.size) (ha : q * B ≤ n) (hb : n < q * B + B) (hp : PermIn (q * B) n d d') (hs : SortedIn (stT lt pos) (q * B) n d') (hc : Cut pos n (q * B) d) : Blk lt pos n B 0 d' := by
  intro k
  rw [Nat.zero_add]
  rcases Nat.lt_trichotomy k q with h' | h' | h'
  · have h2 : (k + 1) * B ≤ q * B := Nat.mul_le_mul_right _ h'
    rw [Nat.succ_mul] at h2
    obtain ⟨s, c⟩ := h k h2
    rw [Nat.min_eq_left (by omega)]
    exact ⟨sorted_perm s hp (.inl h2), c.perm hp (Nat.le_refl _) hn (.inl (by omega))⟩
  · subst h'
    rw [Nat.min_eq_right (by omega)]
    exact ⟨hs, hc.perm hp (Nat.le_refl _) hn (.inl (Nat.le_refl _))⟩
  · have h2 : (q + 1) * B ≤ k * B := Nat.mul_le_mul_right _ h'
    rw [Nat.succ_mul] at h2
    exact ⟨fun i j h1 h2 h3 => by omega, fun i j h1 h2 h3 => by omega⟩
/-- a pass of merges, at a -/
def Pas (lt : α → α → Bool) (pos : α → Nat) (n bs a : Nat) (d : Array α) : Prop := (∃ q, a = q * (2 * bs)) ∧ Bak lt pos n (2 * bs) a d ∧ Blk lt pos n bs a d
theorem Pas.start {n bs : Nat} {d : Array α} (hb : 0 < bs) (h : Blk lt pos n bs 0 d) : Pas lt pos n bs 0 d := ⟨⟨0, by simp⟩, fun k hk => by omega, h⟩
theorem Pas.mrg {n bs a : Nat} {d : Array α} (h : Pas lt pos n bs a d) (hb : a + 2 * bs ≤ n) : Mrg lt pos a (a + bs) (a + 2 * bs) d := by
  obtain ⟨s0, c0⟩ := h.2.2 0
  obtain ⟨s1, c1⟩ := h.2.2 1
  rw [Nat.zero_mul, Nat.add_zero, Nat.min_eq_left (by omega)] at s0
  rw [Nat.one_mul] at s1 c1
  rw [Nat.min_eq_left (by omega), show a + bs + bs = a + 2 * bs by omega] at s1
  exact ⟨s0, s1, fun i j h1 h2 h3 h4 => c1 i j h2 h3 (by omega)⟩
theorem Pas.mrgE {n bs a : Nat} {d : Array α} (h : Pas lt pos n bs a d) (h1 : a + bs < n) (h2 : n < a + 2 * bs) : Mrg lt pos a (a + bs) n d := by
  obtain ⟨s0, c0⟩ := h.2.2 0
  obtain ⟨s1, c1⟩ := h.2.2 1
  rw [Nat.zero_mul, Nat.add_zero, Nat.min_eq_left (by omega)] at s0
  rw [Nat.one_mul] at s1 c1
  rw [Nat.min_eq_right (by omega)] at s1
  exact ⟨s0, s1, fun i j h1 h2 h3 h4 => c1 i j h2 h3 h4⟩
theorem Pas.same {n bs a : Nat} {d : Array α} (h : Pas lt pos n bs a d) (h1 : n ≤ a + bs) : SortedIn (stT lt pos) a n d := by
  obtain ⟨s0, c0⟩ := h.2.2 0
  rwa [Nat.zero_mul, Nat.add_zero, Nat.min_eq_right h1] at s0
theorem Pas.cut {n bs a : Nat} {d : Array α} (h : Pas lt pos n bs a d) : Cut pos n a d := by
  obtain ⟨s0, c0⟩ := h.2.2 0
  rwa [Nat.zero_mul, Nat.add_zero] at c0
theorem Pas.step {n bs a : Nat} {d d' : Array α} (h : Pas lt pos n bs a d) (hbs : 0 < bs) (hb : a + 2 * bs ≤ n) (hn : n ≤ d.size) (hp : PermIn a (a + 2 * bs) d d') (hs : SortedIn (stT lt pos) a (a + 2 * bs) d') : Pas lt pos n bs (a + 2 * bs) d' := by
  have hc := h.cut
  obtain ⟨⟨q, rfl⟩, h1, h2⟩ := h
  refine ⟨⟨q + 1, by rw [Nat.succ_mul q]⟩, h1.step (by omega) hn hb hp hs hc, fun k => ?_⟩
  obtain ⟨s, c⟩ := h2 (k + 2)
  rw [Nat.add_mul, show q * (2 * bs) + (k * bs + 2 * bs) = q * (2 * bs) + 2 * bs + k * bs by omega] at s c
  exact ⟨sorted_perm s hp (.inr (by omega)), c.perm hp (by omega) hn (.inr (by omega))⟩
theorem Pas.close {n bs a : Nat} {d d' : Array α} (h : Pas lt pos n bs a d) (hbs : 0 < bs) (ha : a ≤ n) (hb : n < a + 2 * bs) (hn : n ≤ d.size) (hp : PermIn a n d d') (hs : SortedIn (stT lt pos) a n d') : Blk lt pos n (2 * bs) 0 d' := by
  have hc := h.cut
  obtain ⟨⟨q, rfl⟩, h1, h2⟩ := h
  exact h1.close (by omega) hn ha hb hp hs hc
theorem Blk.whole {n bs : Nat} {d : Array α} (h : Blk lt pos n bs 0 d) (hb : n ≤ bs) : SortedIn (stT lt pos) 0 n d := by
  obtain ⟨s0, c0⟩ := h 0
  rwa [Nat.zero_mul, Nat.add_zero, Nat.min_eq_right (by omega)] at s0
/-- an insertion of what comes later than all ahead of it asks 'less' alone -/
theorem insInner_T (hO : SWO lt) (a : Nat) : ∀ (j : Nat) (d : Array α), j < d.size → (∀ p, a ≤ p → p < j → pos d[p]! < pos d[j]!) → insInner lt a j d = insInner (stT lt pos) a j d
  | 0, d, _, _ => rfl
  | j + 1, d, hj, h => by
    unfold insInner
    by_cases hja : j + 1 > a
    · have e : stT lt pos d[j + 1]! d[j]! = lt d[j + 1]! d[j]! := stT_back (h j (by omega) (by omega))
      rw [e]
      split
      · refine insInner_T hO a j _ (by rw [swp_size]; omega) (fun p h1 h2 => ?_)
        rw [swp_get d hj (by omega), swp_get d hj (by omega)]
        simp only [show p ≠ j by omega, show p ≠ j + 1 by omega, if_false, if_true]
        exact h p h1 (by omega)
      · rfl
    · simp [hja]
theorem ins_go {l : α → α → Bool} {a b i : Nat} {d : Array α} (h : i < b) : insOuter l a b i d = insOuter l a b (i + 1) (insInner l a i d) := by
  conv => lhs; unfold insOuter
  rw [if_pos h]
theorem ins_no {l : α → α → Bool} {a b i : Nat} {d : Array α} (h : ¬ i < b) : insOuter l a b i d = d := by
  conv => lhs; unfold insOuter
  rw [if_neg h]
theorem insOuter_T (hO : SWO lt) (a b : Nat) : ∀ (m i : Nat) (d : Array α), b - i = m → a < i → i ≤ b → b ≤ d.size → SortedIn (stT lt pos) a i d → (∀ p q, a ≤ p → p < q → i ≤ q → q < b → pos d[p]! < pos d[q]!) → insOuter lt a b i d = insOuter (stT lt pos) a b i d
  | 0, i, d, hm, _, hib, _, _, _ => by
    rw [ins_no (by omega), ins_no (by omega)]
  | m + 1, i, d, hm, hai, hib, hb, hs, h => by
    have hlt : i < b := by omega
    rw [ins_go hlt, ins_go hlt, insInner_T hO a i d (by omega) (fun p h1 h2 => h p i h1 h2 (Nat.le_refl _) hlt)]
    have h1 := insInner_spec (swo_stT (pos := pos) hO) swp_permIn permIn_refl permIn_trans a (i + 1) i (by omega) i d (by omega) (Nat.le_refl _) (by omega) ⟨fun p q hap hpq hqi _ hq => hs p q hap hpq (by omega), fun q h1 h2 => by omega⟩
    refine insOuter_T hO a b m (i + 1) _ (by omega) (by omega) (by omega) (by rw [h1.1.1]; exact hb) h1.2 (fun p q p1 p2 p3 p4 => ?_)
    obtain ⟨k, ek, hk⟩ := permIn_any h1.1 (by omega) p
    rw [h1.1.2.1 q (.inr (by omega)), ek]
    exact h k q (by omega) (by omega) (by omega) p4
theorem ins_T (hO : SWO lt) {a b : Nat} {d : Array α} (hab : a ≤ b) (hb : b ≤ d.size) (h : ∀ p q, a ≤ p → p < q → q < b → pos d[p]! < pos d[q]!) : PermIn a b d (insertionSort lt d a b) ∧ SortedIn (stT lt pos) a b (insertionSort lt d a b) := by
  have e : insertionSort lt d a b = insertionSort (stT lt pos) d a b := by
    unfold insertionSort
    by_cases hh : a + 1 ≤ b
    · exact insOuter_T hO a b _ (a + 1) d rfl (by omega) hh hb (fun i j h1 h2 h3 => by omega) (fun p q p1 p2 p3 p4 => h p q p1 p2 p4)
    · rw [ins_no (by omega), ins_no (by omega)]
  rw [e]
  exact insertionSort_holds (swo_stT hO) d a b hab hb
/-- blocks are put in order, at a -/
def Ini (lt : α → α → Bool) (pos : α → Nat) (n a : Nat) (d : Array α) : Prop := (∃ q, a = q * 20) ∧ Bak lt pos n 20 a d ∧ ∀ c, a ≤ c → Cut pos n c d
theorem Ini.start {n : Nat} {d : Array α} (h : ∀ i j, i < j → j < n → pos d[i]! < pos d[j]!) : Ini lt pos n 0 d := ⟨⟨0, rfl⟩, fun k hk => by omega, fun c _ i j h1 h2 h3 => h i j (by omega) h3⟩
theorem Ini.ins (hO : SWO lt) {n a b : Nat} {d : Array α} (h : Ini lt pos n a d) (hab : a ≤ b) (hb : b ≤ n) (hn : n ≤ d.size) : PermIn a b d (insertionSort lt d a b) ∧ SortedIn (stT lt pos) a b (insertionSort lt d a b) :=
  ins_T hO hab (by omega) (fun p q h1 h2 h3 => h.2.2 q (by omega) p q h2 (Nat.le_refl _) (by omega))
theorem Ini.step (hO : SWO lt) {n a : Nat} {d : Array α} (h : Ini lt pos n a d) (hb : a + 20 ≤ n) (hn : n ≤ d.size) : Ini lt pos n (a + 20) (insertionSort lt d a (a + 20)) := by
  obtain ⟨hp, hs⟩ := h.ins hO (b := a + 20) (by omega) hb hn
  have hc := h.2.2 a (Nat.le_refl _)
  obtain ⟨⟨q, rfl⟩, h1, h2⟩ := h
  exact ⟨⟨q + 1, by omega⟩, h1.step (by omega) hn hb hp hs hc, fun c hc' => (h2 c (by omega)).perm hp (by omega) hn (.inr hc')⟩
theorem Ini.close (hO : SWO lt) {n a : Nat} {d : Array α} (h : Ini lt pos n a d) (ha : a ≤ n) (hb : n < a + 20) (hn : n ≤ d.size) : Blk lt pos n 20 0 (insertionSort lt d a n) := by
  obtain ⟨hp, hs⟩ := h.ins hO (b := n) ha (Nat.le_refl _) hn
  have hc := h.2.2 a (Nat.le_refl _)
  obtain ⟨⟨q, rfl⟩, h1, h2⟩ := h
  exact h1.close (by omega) hn ha hb hp hs hc

/-! ### rotations by exchanges of ranges -/
/-- so much of a rotation is left: i ahead of m, j behind it -/
def Rot (f : Nat → α) (m i j : Nat) (d : Array α) : Prop := (∀ t, t < j → f (m - i + t) = d[m + t]!) ∧ (∀ t, t < i → f (m - i + j + t) = d[m - i + t]!) ∧ ∀ k, k < m - i ∨ m + j ≤ k → f k = d[k]!
/-- what an exchange of two ranges of n cells leaves -/
def swF (d : Array α) (a b n k : Nat) : α := if a ≤ k ∧ k < a + n then d[b + (k - a)]! else if b ≤ k ∧ k < b + n then d[a + (k - b)]! else d[k]!
theorem Rot.start {d : Array α} {a m b : Nat} (h1 : a ≤ m) (h2 : m ≤ b) : Rot (rotF d a m b) m (m - a) (b - m) d := by
  refine ⟨fun t ht => ?_, fun t ht => ?_, fun k hk => ?_⟩
  · rw [rotF, if_neg (by omega), if_pos (by omega)]; congr 1; omega
  · rw [rotF, if_neg (by omega), if_neg (by omega)]; congr 1; omega
  · rw [rotF, if_pos (by omega)]
theorem Rot.left {f : Nat → α} {m i j : Nat} {d d' : Array α} (h : Rot f m i j d) (him : i ≤ m) (hij : j < i) (hd : ∀ k, d'[k]! = swF d (m - i) m j k) : Rot f m (i - j) j d' := by
  refine ⟨fun t ht => ?_, fun t ht => ?_, fun k hk => ?_⟩
  · rw [hd, swF, if_neg (by omega), if_pos (by omega), show m - (i - j) + t = m - i + j + t by omega, h.2.1 t (by omega)]; congr 1; omega
  · rw [hd, swF, if_neg (by omega), if_neg (by omega), show m - (i - j) + j + t = m - i + j + (j + t) by omega, h.2.1 (j + t) (by omega)]; congr 1; omega
  · by_cases hk' : k < m - i ∨ m + j ≤ k
    · rw [hd, swF, if_neg (by omega), if_neg (by omega)]; exact h.2.2 k hk'
    · rw [hd, swF, if_pos (by omega), show k = m - i + (k - (m - i)) by omega, h.1 _ (by omega)]; congr 1; omega
theorem Rot.right {f : Nat → α} {m i j : Nat} {d d' : Array α} (h : Rot f m i j d) (him : i ≤ m) (hij : i < j) (hd : ∀ k, d'[k]! = swF d (m - i) (m + j - i) i k) : Rot f m i (j - i) d' := by
  refine ⟨fun t ht => ?_, fun t ht => ?_, fun k hk => ?_⟩
  · rw [hd, swF, if_neg (by omega), if_neg (by omega)]; exact h.1 t (by omega)
  · rw [hd, swF, if_pos (by omega), show m - i + (j - i) + t = m - i + (j - i + t) by omega, h.1 _ (by omega)]; congr 1; omega
  · by_cases hk' : k < m - i ∨ m + j ≤ k
    · rw [hd, swF, if_neg (by omega), if_neg (by omega)]; exact h.2.2 k hk'
    · rw [hd, swF, if_neg (by omega), if_pos (by omega), show k = m - i + j + (k - (m + j - i)) by omega, h.2.1 _ (by omega)]; congr 1; omega
theorem Rot.done {f : Nat → α} {m i : Nat} {d d' : Array α} (h : Rot f m i i d) (him : i ≤ m) (hd : ∀ k, d'[k]! = swF d (m - i) m i k) (k : Nat) : d'[k]! = f k := by
  rw [hd, swF]
  split
  · rw [show k = m - i + (k - (m - i)) by omega, h.1 _ (by omega)]; congr 1; omega
  · split
    · rw [show k = m - i + i + (k - m) by omega, h.2.1 _ (by omega)]; congr 1; omega
    · exact (h.2.2 k (by omega)).symm
/-- a rotation of nothing -/
theorem rot_id {d : Array α} {s m e : Nat} (h1 : s ≤ m) (h2 : m ≤ e) (h : s = m ∨ m = e) (k : Nat) : d[k]! = rotF d s m e k := by
  unfold rotF
  split
  · rfl
  · split
    · rcases h with h | h
      · congr 1; omega
      · omega
    · rcases h with h | h
      · omega
      · congr 1; omega
theorem Mrg.perm {a m b x y : Nat} {d d' : Array α} (h : Mrg lt pos a m b d) (hp : PermIn x y d d') (hc : y ≤ a) (ham : a ≤ m) : Mrg lt pos a m b d' :=
  ⟨sorted_perm h.sl hp (.inr hc), sorted_perm h.sr hp (.inr (by omega)), fun i j h1 h2 h3 h4 => by rw [hp.2.1 i (.inr (by omega)), hp.2.1 j (.inr (by omega))]; exact h.cr i j h1 h2 h3 h4⟩
end
end Go.Proofs.Ytekhnolpgoejdab
