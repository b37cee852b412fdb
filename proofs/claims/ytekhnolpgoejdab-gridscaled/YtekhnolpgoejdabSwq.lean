/-
  Plain facts on floats, more: rounding to the nearest rung, sums and products of finite floats, signs turned. No program is named here.
-/
import Derived.Test.YtekhnolpgoejdabSwp
import Derived.Test.YtekhnolpgoejdabStp
import Derived.Shelf.SlSortCmp.Kit1
import Derived.Shelf.SlSortCmp.KitK
namespace Go.Proofs.Ytekhnolpgoejdab
open Ieee Go.RowKit Go.Sort Go.WideShapes Go.Shelf Go.Lib
set_option linter.unusedSimpArgs false
set_option linter.unusedVariables false

/-! ### A row of a call's own, put in order by the library -/
theorem below_get {B : Nat} {w w' : World} {b o : Nat} {v : Value} (h : Below B w w') (hb : b < B) (g : w.cell? ⟨b, o, none⟩ = some v) : w'.cell? ⟨b, o, none⟩ = some v := (h.cell hb).trans g
theorem bw_trans {a b c : World} (h : Below a.heap.size a b) (k : Below b.heap.size b c) : Below a.heap.size a c := h.trans (k.mono h.size)
theorem Bs.below {w w' : World} {b off n : Nat} {B : Nat → Bo} (h : Bs w b off n B) (g : Below w.heap.size w w') : Bs w' b off n B := fun i hi => by
  have hl := World.block_lt_of_cell? _ _ (h i hi).1
  exact ⟨below_get g hl (h i hi).1, below_get g hl (h i hi).2.1, below_get g hl (h i hi).2.2.1, below_get g hl (h i hi).2.2.2⟩
theorem OwnR.below {sz base : Nat} {w w' : World} {v : Value} {n : Nat} {R : List Value} (h : OwnR sz base w v n R) (g : Below w.heap.size w w') (hz : 0 < sz) : OwnR sz base w' v n R ∨ n = 0 := by
  rcases Nat.eq_zero_or_pos n with h0 | h0
  · exact .inr h0
  refine .inl ⟨h.1, ?_⟩
  rcases h.2 with ⟨e1, e2⟩ | ⟨k, cap, e, h1, h2, h3, h4, h5, h6⟩
  · exact .inl ⟨e1, e2⟩
  · have hpos : 0 < cap * sz := Nat.mul_pos (by omega) hz
    obtain ⟨u0, hu0⟩ := Option.isSome_iff_exists.1 (h5 0 hpos)
    have hl := World.block_lt_of_cell? _ _ hu0
    refine .inr ⟨k, cap, e, h1, h2, h3, fun j u hj => below_get g hl (h4 j u hj), fun j hj => ?_, fun o => ?_⟩
    · obtain ⟨u, hu⟩ := Option.isSome_iff_exists.1 (h5 j hj)
      rw [below_get g hl hu]; rfl
    · have := g.block k hl
      have h6' := h6 o
      unfold World.frozen? at h6' ⊢
      rw [this]; exact h6'
theorem own_split {sz base : Nat} {w : World} {v : Value} {n : Nat} {R : List Value} (h : OwnR sz base w v n R) (hz : 0 < sz) : (n = 0 ∧ ∃ sa cap, v = .slice sa 0 cap) ∨ (0 < n ∧ ∃ g cap, v = .slice (some ⟨g, 0, none⟩) n cap ∧ base ≤ g ∧ g < w.heap.size ∧ n ≤ cap) := by
  rcases h.2 with ⟨e1, e2⟩ | ⟨k, cap, e, h1, h2, h3, h4, h5, h6⟩
  · exact .inl ⟨e2, _, _, e1⟩
  · rcases Nat.eq_zero_or_pos n with h0 | h0
    · subst h0; exact .inl ⟨rfl, _, _, e⟩
    · obtain ⟨u0, hu0⟩ := Option.isSome_iff_exists.1 (h5 0 (Nat.mul_pos (by omega) hz))
      exact .inr ⟨h0, k, cap, e, h1, World.block_lt_of_cell? _ _ hu0, h2⟩
section
variable {β : Type} [Inhabited β]
theorem sort_cell {enc : β → Value} {w : World} {g off m : Nat} {dk : Array β} {os : Array Obj} {c o : Nat} {v : Value} (hc : c ≠ g) (h : w.cell? ⟨c, o, none⟩ = some v) : (sortWorld enc w g off m dk os).cell? ⟨c, o, none⟩ = some v := by
  have hl := World.block_lt_of_cell? _ _ h
  unfold sortWorld
  rw [cell?_grow _ _ _ (by rw [Sort.size_putRow]; exact hl), cell?_putRow_other _ _ _ _ _ _ (.inl hc)]
  exact h
theorem sort_below {enc : β → Value} {w : World} {g off m B : Nat} {dk : Array β} {os : Array Obj} (hB : B ≤ g) (hg : g < w.heap.size) : Below B w (sortWorld enc w g off m dk os) := by
  refine ⟨rfl, rfl, rfl, ?_, fun k hk => ?_⟩
  · unfold sortWorld; rw [size_grow, Sort.size_putRow]; show w.heap.size ≤ w.heap.size + _; omega
  · unfold sortWorld
    rw [heap_grow_old _ _ (by rw [Sort.size_putRow]; show k < w.heap.size; omega)]
    unfold putRow mapBlock
    show (w.heap.modify g _)[k]? = _
    rw [Array.getElem?_modify, if_neg (by omega)]
theorem sort_own {enc : β → Value} {sz base n : Nat} {w : World} {g cap m : Nat} {R : List Value} {d0 d : Array β} {os : Array Obj} (h : OwnR sz base w (.slice (some ⟨g, 0, none⟩) n cap) n R) (hR : R.length = d.size) (hg : g < w.heap.size) (h0 : Holds enc w g 0 d0) (hs : d.size = d0.size) :
    OwnR sz base (sortWorld enc w g 0 m d os) (.slice (some ⟨g, 0, none⟩) n cap) n (d.toList.map enc) := by
  refine ⟨by rw [List.length_map, Array.length_toList, ← hR]; exact h.1, ?_⟩
  rcases h.2 with ⟨e1, e2⟩ | ⟨k, cap', e, h1, h2, h3, h4, h5, h6⟩
  · simp at e1
  · injection e with e1 e2 e3
    injection e1 with e1
    injection e1 with e1
    subst e1 e3
    have hol := holds_sortWorld enc w g 0 m d0 d os hg h0 hs
    refine .inr ⟨g, cap, rfl, h1, h2, h3, fun j u hj => ?_, fun j hj => ?_, fun o => ?_⟩
    · rw [List.getElem?_map] at hj
      cases hx : d.toList[j]? with
      | none => rw [hx] at hj; simp at hj
      | some x =>
        rw [hx] at hj
        simp only [Option.map_some, Option.some.injEq] at hj
        subst hj
        have hjl : j < d.size := by
          rcases Nat.lt_or_ge j d.size with h' | h'
          · exact h'
          · rw [List.getElem?_eq_none (by simpa using h')] at hx; cases hx
        have := (hol j hjl).1
        rw [this]
        rw [Array.getElem?_toList, Array.getElem?_eq_getElem hjl] at hx
        rw [getElem!_pos d j hjl]
        simp only [Option.some.injEq] at hx
        rw [hx]
    · rcases Nat.lt_or_ge j d.size with h' | h'
      · have := (hol j h').1
        rw [Nat.zero_add] at this
        rw [this]; rfl
      · unfold sortWorld
        rw [cell?_grow _ _ _ (by rw [Sort.size_putRow]; exact hg), cell?_putRow_other _ _ _ _ _ _ (.inr (.inr (by simpa using h')))]
        exact h5 j hj
    · unfold sortWorld
      rw [frozen?_grow _ _ _ (by rw [Sort.size_putRow]; exact hg), Sort.frozen?_putRow]
      exact h6 o
theorem own_holds {enc : β → Value} {sz base n : Nat} {w : World} {g cap : Nat} {d : Array β} (h : OwnR sz base w (.slice (some ⟨g, 0, none⟩) n cap) n (d.toList.map enc)) : Holds enc w g 0 d := by
  rcases h.2 with ⟨e1, e2⟩ | ⟨k, cap', e, h1, h2, h3, h4, h5, h6⟩
  · simp at e1
  · injection e with e1 e2 e3
    injection e1 with e1
    injection e1 with e1
    subst e1
    intro j hj
    refine ⟨h4 j _ ?_, h6 _⟩
    rw [List.getElem?_map, Array.getElem?_toList, Array.getElem?_eq_getElem hj, getElem!_pos d j hj]; rfl
end

/-! ### the numbers of boxes, in the order of left ends -/
/-- a number whose box may be -/
abbrev Mb (B : Nat → Bo) (n : Nat) := { i : Nat // i < n ∧ mayO (B i) = true }
def cfX (B : Nat → Bo) (i k : Nat) : Int := if kX (B i) < kX (B k) then -1 else if kX (B k) < kX (B i) then 1 else 0
def encM (B : Nat → Bo) (n : Nat) (x : Mb B n) : Value := .int .i64 (x.1 : Int)
theorem lt_cfX {B : Nat → Bo} {n : Nat} (x y : Mb B n) : ltOf (fun x y : Mb B n => cfX B x.1 y.1) x y = decide (kX (B x.1) < kX (B y.1)) := by
  unfold ltOf cfX
  by_cases h1 : kX (B x.1) < kX (B y.1)
  · simp [h1]
  · by_cases h2 : kX (B y.1) < kX (B x.1) <;> simp [h1, h2]
theorem swo_cfX {B : Nat → Bo} {n : Nat} : SWO (ltOf (fun x y : Mb B n => cfX B x.1 y.1)) where
  irrefl x := by rw [lt_cfX]; simp
  trans x y z h1 h2 := by rw [lt_cfX] at *; simp at *; omega
  ntrans x y z h1 h2 := by rw [lt_cfX] at *; simp at *; omega
/-- numbers with what is known of them -/
theorem withP {α : Type} (P : α → Prop) : ∀ (l : List α), (∀ x ∈ l, P x) → ∃ m : List { x // P x }, m.map (·.1) = l
  | [], _ => ⟨[], rfl⟩
  | a :: l, h => by
    obtain ⟨m, hm⟩ := withP P l fun x hx => h x (List.mem_cons_of_mem _ hx)
    exact ⟨⟨a, h a (List.mem_cons_self ..)⟩ :: m, by rw [List.map_cons, hm]⟩
theorem map_enc {B : Nat → Bo} {n : Nat} (l : List (Mb B n)) : l.map (encM B n) = iRow (l.map (·.1)) := by
  unfold iRow; rw [List.map_map]; rfl
theorem permIn_list {α : Type} [Inhabited α] {d d' : Array α} {n : Nat} (hn : d.size = n) (h : PermIn 0 n d d') : d'.toList.Perm d.toList := by
  have h3 := h.2.2
  have hs := h.1
  rw [show d'.extract 0 n = d' by rw [← hn, ← hs]; simp, show d.extract 0 n = d by rw [← hn]; simp] at h3
  exact h3
theorem sorted_list {α : Type} [Inhabited α] {T : α → α → Bool} {d : Array α} {n : Nat} (hn : d.size = n) (h : SortedIn T 0 n d) : d.toList.Pairwise fun a b => T b a = false := by
  rw [List.pairwise_iff_getElem]
  intro i j hi hj hij
  have := h i j (Nat.zero_le _) hij (by rw [← hn]; simpa using hj)
  rw [getElem!_pos d i (by simpa using hi), getElem!_pos d j (by simpa using hj)] at this
  simpa using this
theorem ord_of_sort {B : Nat → Bo} {n n0 : Nat} [Inhabited (Mb B n)] {d d' : Array (Mb B n)} (hd : d.toList.map (·.1) = nums (fun i => mayO (B i)) n) (hn : d.size = n0) (hp : PermIn 0 n0 d d') (hs : SortedIn (stT (ltOf fun x y : Mb B n => cfX B x.1 y.1) (·.1)) 0 n0 d') : OrdL B n (d'.toList.map (·.1)) := by
  have hP := permIn_list hn hp
  have hS := sorted_list (hp.1.trans hn) hs
  have hN : (d.toList.map (·.1)).Nodup := by rw [hd]; exact (nums_lt _ _).imp fun h => by omega
  have hN' : (d'.toList.map (·.1)).Nodup := (hP.map _).nodup_iff.2 hN
  refine ⟨?_, fun i => ?_, ?_⟩
  · rw [List.pairwise_map]
    unfold List.Nodup at hN'
    rw [List.pairwise_map] at hN'
    refine (hS.and hN').imp ?_
    rintro a b ⟨h1, h2⟩
    unfold stT at h1
    rw [lt_cfX, lt_cfX] at h1
    unfold tO
    simp only [Bool.or_eq_false_iff, Bool.and_eq_false_iff, decide_eq_false_iff_not, Bool.not_eq_false', decide_eq_true_eq] at h1
    omega
  · rw [(hP.map _).mem_iff, hd, nums_mem]
  · rw [(hP.map _).length_eq, hd]; exact nums_len _ _

/-! ### rows that are only read -/
/-- numbers in a slice, wherever it lies -/
def IRow (w : World) (v : Value) (L : List Nat) : Prop := ∃ sa cap, v = .slice sa L.length cap ∧ (L = [] ∨ ∃ g o, sa = some ⟨g, o, none⟩ ∧ Is w g o L)
theorem own_row {base : Nat} {w : World} {v : Value} {L : List Nat} (h : OwnR 1 base w v L.length (iRow L)) : IRow w v L := by
  rcases own_split h (by decide) with ⟨h0, sa, cap, e⟩ | ⟨h0, g, cap, e, _⟩
  · exact ⟨sa, cap, by rw [h0]; exact e, .inl (List.eq_nil_of_length_eq_zero h0)⟩
  · subst e
    exact ⟨_, cap, rfl, .inr ⟨g, 0, rfl, own_is h⟩⟩
theorem IRow.below {w w' : World} {v : Value} {L : List Nat} (h : IRow w v L) (g : Below w.heap.size w w') : IRow w' v L := by
  obtain ⟨sa, cap, e, h0 | ⟨b, o, e2, hI⟩⟩ := h
  · exact ⟨sa, cap, e, .inl h0⟩
  · exact ⟨sa, cap, e, .inr ⟨b, o, e2, fun k r hk => below_get g (World.block_lt_of_cell? _ _ (hI k r hk)) (hI k r hk)⟩⟩
/-- boxes in a slice, wherever it lies -/
def AnyB (w : World) (sa : Option Addr) (n : Nat) (B : Nat → Bo) : Prop := n = 0 ∨ ∃ b off, sa = some ⟨b, off, none⟩ ∧ Bs w b off n B ∧ b < w.heap.size
theorem AnyB.below {w w' : World} {sa : Option Addr} {n : Nat} {B : Nat → Bo} (h : AnyB w sa n B) (g : Below w.heap.size w w') : AnyB w' sa n B := by
  rcases h with h | ⟨b, off, e, hB, hb⟩
  · exact .inl h
  · exact .inr ⟨b, off, e, hB.below g, Nat.lt_of_lt_of_le hb g.size⟩
/-- what With answers -/
def wiL (B : Nat → Bo) (n : Nat) (y : Bo) : List Nat := if 16384 < n then [] else nums (fun i => meO (B i) y) n
def mnE (n : Nat) : Int := if 16384 < n then 4 else 0
/-- what Order answers -/
def OrdR (B : Nat → Bo) (n : Nat) (O : List Nat) : Prop := (16384 < n → O = []) ∧ (n ≤ 16384 → OrdL B n O)
theorem ordR_uniq {B : Nat → Bo} {n : Nat} {O O' : List Nat} (h : OrdR B n O) (h' : OrdR B n O') : O = O' := by
  rcases Nat.lt_or_ge 16384 n with hn | hn
  · rw [h.1 hn, h'.1 hn]
  · exact ord_uniq (h.2 hn) (h'.2 hn)
theorem ordL_none (B : Nat → Bo) : OrdL B 0 [] := ⟨List.Pairwise.nil, fun i => by simp, Nat.le_refl _⟩
end Go.Proofs.Ytekhnolpgoejdab
