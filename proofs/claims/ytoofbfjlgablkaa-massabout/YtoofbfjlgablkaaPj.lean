/-
  What each function of package poly answers, and what the reference of its chapter answers: one contract a function, for every float: the answer stands in the relation of its formula to what was given; of the memory that was there nothing has turned.
-/
import Derived.Test.YtoofbfjlgablkaaVec
import Derived.Test.YtoofbfjlgablkaaPh
import Derived.Below
import Derived.Laws.AppendOwn
import Derived.Laws.IdiomCopy
import Derived.OwnWalk
import Derived.WideShapes
import Derived.WalkKit
import Derived.WalkLawsBesides
import Derived.WalkSpells
import Derived.ProofKit
import Derived.OpenShut
import Derived.Deep.RegionHeld3
namespace Go.Proofs.Ytoofbfjlgablkaa
open Go.ChangeShapes Go.WideShapes Go.ChangeAt Go.RowKit
set_option linter.unusedVariables false
set_option linter.unusedSimpArgs false


theorem info_vec : (Try.prog.info? 26).map (fun i => (i.zero, i.size, i.bytes)) = some (some (.agg #[.float .f64 0, .float .f64 0]), 2, 16) := by kernel_rfl
/-- the cells of a row of points -/
def prRow (xs ys : Nat → Nat) (k : Nat) : List Value := (List.range (k * 2)).map fun j => .float .f64 (if j % 2 = 0 then xs (j / 2) else ys (j / 2))
theorem prRow_length (xs ys : Nat → Nat) (k : Nat) : (prRow xs ys k).length = k * 2 := by simp [prRow]
theorem prRow_get (xs ys : Nat → Nat) (k j : Nat) (h : j < k * 2) : (prRow xs ys k)[j]? = some (.float .f64 (if j % 2 = 0 then xs (j / 2) else ys (j / 2))) := by simp [prRow, h]
theorem prRow_one (xs ys : Nat → Nat) (k : Nat) : ∀ u ∈ prRow xs ys k, u.oneCell' = true := by
  intro u hu; simp [prRow] at hu; obtain ⟨a, _, rfl⟩ := hu; rfl
theorem prRow_cells {w : World} {b off n : Nat} {xs ys : Nat → Nat} (hs : Sl w b off n xs ys) : ∀ j u, (prRow xs ys n)[j]? = some u → w.cell? ((⟨b, off, none⟩ : Addr).add j) = some u := by
  intro j u hj
  have hjl : j < n * 2 := by
    rcases Nat.lt_or_ge j (n * 2) with h | h
    · exact h
    · rw [List.getElem?_eq_none (by rw [prRow_length]; exact h)] at hj; cases hj
  rw [prRow_get _ _ _ _ hjl] at hj
  injection hj with hj
  subst hj
  obtain ⟨e1, e2⟩ := hs (j / 2) (by omega)
  rw [add_plain]
  rcases Nat.mod_two_eq_zero_or_one j with h | h
  · rw [if_pos h]
    have : j / 2 * 2 = j := by omega
    rw [this] at e1
    exact e1
  · rw [if_neg (by omega)]
    have : j / 2 * 2 + 1 = j := by omega
    rw [Nat.add_assoc, this] at e2
    exact e2
/-- cells that hold a row hold its points -/
theorem sl_of {w : World} {b off n : Nat} {xs ys : Nat → Nat} (h : ∀ j, j < n * 2 → w.cell? ⟨b, off + j, none⟩ = (prRow xs ys n)[j]?) : Sl w b off n xs ys := by
  intro i hi
  have h1 := h (i * 2) (by omega)
  have h2 := h (i * 2 + 1) (by omega)
  rw [prRow_get _ _ _ _ (by omega), if_pos (by omega), show i * 2 / 2 = i by omega] at h1
  rw [prRow_get _ _ _ _ (by omega), if_neg (by omega), show (i * 2 + 1) / 2 = i by omega] at h2
  exact ⟨h1, by rw [Nat.add_assoc]; exact h2⟩
theorem Sl.join {w : World} {b off n m : Nat} {xs ys us vs zs ws : Nat → Nat} (h : Sl w b off n xs ys) (g : Sl w b (off + n * 2) m us vs) (e1 : ∀ i, i < n → zs i = xs i) (e2 : ∀ i, i < n → ws i = ys i) (e3 : ∀ i, i < m → zs (n + i) = us i) (e4 : ∀ i, i < m → ws (n + i) = vs i) : Sl w b off (n + m) zs ws := by
  intro i hi
  by_cases hl : i < n
  · rw [e1 i hl, e2 i hl]; exact h i hl
  · obtain ⟨j, rfl⟩ : ∃ j, i = n + j := ⟨i - n, by omega⟩
    rw [e3 j (by omega), e4 j (by omega)]
    obtain ⟨h1, h2⟩ := g j (by omega)
    rw [show off + (n + j) * 2 = off + n * 2 + j * 2 by omega]
    exact ⟨h1, h2⟩
theorem px_app1 (L M : List Pt) : ∀ i, i < L.length → px (L ++ M) i = px L i := fun i hi => by
  unfold px pt; rw [List.getD_eq_getElem?_getD, List.getD_eq_getElem?_getD, List.getElem?_append_left hi]
theorem py_app1 (L M : List Pt) : ∀ i, i < L.length → py (L ++ M) i = py L i := fun i hi => by
  unfold py pt; rw [List.getD_eq_getElem?_getD, List.getD_eq_getElem?_getD, List.getElem?_append_left hi]
theorem px_app2 (L M : List Pt) (i : Nat) : px (L ++ M) (L.length + i) = px M i := by
  unfold px pt; rw [List.getD_eq_getElem?_getD, List.getD_eq_getElem?_getD, List.getElem?_append_right (by omega), Nat.add_sub_cancel_left]
theorem py_app2 (L M : List Pt) (i : Nat) : py (L ++ M) (L.length + i) = py M i := by
  unfold py pt; rw [List.getD_eq_getElem?_getD, List.getD_eq_getElem?_getD, List.getElem?_append_right (by omega), Nat.add_sub_cancel_left]
theorem Mo.sets {b : Nat} : ∀ (vs : List Value) (o : Nat) {w w1 : World}, Mo b w w1 → Mo b w (w1.setCells b o vs) := by
  intro vs
  induction vs with
  | nil => intro o w w1 h; exact h
  | cons v r ih => intro o w w1 h; exact ih (o + 1) h.set
theorem some_sets {b x : Nat} : ∀ (vs : List Value) (o : Nat) (w : World), (w.cell? ⟨b, x, none⟩).isSome = true → ((w.setCells b o vs).cell? ⟨b, x, none⟩).isSome = true := by
  intro vs
  induction vs with
  | nil => intro o w h; exact h
  | cons v r ih =>
    intro o w h
    refine ih (o + 1) _ ?_
    by_cases e : o = x
    · subst e
      obtain ⟨u, hu⟩ := Option.isSome_iff_exists.1 h
      rw [World.cell?_setCell_same _ _ _ hu]; rfl
    · rw [far_off e]; exact h
/-- what is put behind a row that has room -/
theorem run_app_room (w : World) (ty g off n cap a ao m c : Nat) (us vs : Nat → Nat) (hs : Sl w a ao m us vs) (hroom : n + m ≤ cap) (hx : ∀ j, j < m * 2 → (w.cell? ⟨g, off + n * 2 + j, none⟩).isSome = true) (hf : ∀ o, w.frozen? ⟨g, o, none⟩ = false) :
    (Builtin.append_ #[42, 42] ty #[.slice (some ⟨g, off, none⟩) n cap, .slice (some ⟨a, ao, none⟩) m c]).run Try.prog w = .ok (.slice (some ⟨g, off, none⟩) (n + m) cap) (w.setCells g (off + n * 2) (prRow us vs m)) ∧ Sl (w.setCells g (off + n * 2) (prRow us vs m)) g (off + n * 2) m us vs := by
  obtain ⟨i0, hi, hz0, hz1, hz2⟩ := info_parts info_vec
  have hf1 := run_firstCells_some (P := Try.prog) w 2 m ⟨a, ao, none⟩ m c (prRow us vs m) (prRow_length _ _ _) (prRow_cells hs)
  have hst := run_storeCells_cells (P := Try.prog) g (off + n * 2) (prRow us vs m) 0 w (by rw [prRow_length]; simpa using hx) (fun j _ => hf _) (prRow_one _ _ _)
  simp only [Nat.add_zero] at hst
  constructor
  · simp [Builtin.append_, run_underlying Try.underlying42, sizeOf, typeInfo, hi, hz1, Builtin.lenOf, hroom, hf1, add_plain, hst]
  · refine sl_of fun j hj => ?_
    have hj' : j < (prRow us vs m).length := by rw [prRow_length]; exact hj
    rw [World.cell?_setCells_in g _ _ w (by rw [prRow_length]; exact hx) j hj', List.getElem?_eq_getElem hj']
/-- a row of the call's own, of points -/
def Own (base : Nat) (w : World) (v : Value) (L : List Pt) : Prop :=
  (v = .slice none 0 0 ∧ L = []) ∨ ∃ g cap, v = .slice (some ⟨g, 0, none⟩) L.length cap ∧ base ≤ g ∧ L.length ≤ cap ∧ cap ≤ maxLen ∧ Sl w g 0 L.length (px L) (py L) ∧ (∀ j, j < cap * 2 → (w.cell? ⟨g, j, none⟩).isSome = true) ∧ ∀ o, w.frozen? ⟨g, o, none⟩ = false
theorem Own.nil (base : Nat) (w : World) : Own base w (.slice none 0 0) [] := .inl ⟨rfl, rfl⟩
theorem Own.bel {base : Nat} {w w' : World} {v : Value} {L : List Pt} (h : Own base w v L) (g : Bel w w') : Own base w' v L := by
  rcases h with h | ⟨k, cap, e, h1, h2, h3, h4, h5, h6⟩
  · exact .inl h
  · refine .inr ⟨k, cap, e, h1, h2, h3, h4.bel g, fun j hj => ?_, fun o => (g.2 _).trans (h6 o)⟩
    obtain ⟨u, hu⟩ := Option.isSome_iff_exists.1 (h5 j hj)
    rw [keep g hu]; rfl
theorem own_new {base : Nat} {w : World} {L : List Pt} {cs : Array Value} {cap : Nat} (hb : base ≤ w.heap.size) (hl : L.length ≤ cap) (hm : cap ≤ maxLen) (hs : cs.size = cap * 2) (hc : ∀ j, j < L.length * 2 → cs[j]? = (prRow (px L) (py L) L.length)[j]?) : Own base (w.alloc (.cells cs 26)) (.slice (some ⟨w.heap.size, 0, none⟩) L.length cap) L := by
  refine .inr ⟨_, _, rfl, hb, hl, hm, sl_of fun j hj => ?_, fun j hj => ?_, fun o => fz_alloc (fresh_frozen (Nat.le_refl _))⟩
  · rw [Nat.zero_add, World.cell?_alloc_new]; exact hc j hj
  · rw [World.cell?_alloc_new, Array.getElem?_eq_getElem (by rw [hs]; exact hj)]; rfl
theorem prRow_app (L M : List Pt) : prRow (px L) (py L) L.length ++ prRow (px M) (py M) M.length = prRow (px (L ++ M)) (py (L ++ M)) (L ++ M).length := by
  apply List.ext_getElem?
  intro j
  rw [List.length_append]
  by_cases h1 : j < L.length * 2
  · rw [List.getElem?_append_left (by rw [prRow_length]; exact h1), prRow_get _ _ _ _ h1, prRow_get _ _ _ _ (by omega), px_app1 _ _ _ (by omega), py_app1 _ _ _ (by omega)]
  · rw [List.getElem?_append_right (by rw [prRow_length]; omega), prRow_length]
    by_cases h2 : j < (L.length + M.length) * 2
    · rw [prRow_get _ _ _ _ (by omega), prRow_get _ _ _ _ h2]
      have e1 : j / 2 = L.length + (j - L.length * 2) / 2 := by omega
      have e2 : j % 2 = (j - L.length * 2) % 2 := by omega
      rw [e1, px_app2, py_app2, e2]
    · rw [List.getElem?_eq_none (by rw [prRow_length]; omega), List.getElem?_eq_none (by rw [prRow_length]; omega)]
/-- points that lie somewhere, put behind a row of the call's own -/
theorem run_app {base : Nat} {w : World} {v : Value} {L M : List Pt} (ty a ao c : Nat) (h : Own base w v L) (hs : Sl w a ao M.length (px M) (py M)) (hM : 0 < M.length) (hb : base ≤ w.heap.size) (hr : (L.length + M.length) * 16 ≤ 140737488355328) :
    ∃ v' w', (Builtin.append_ #[42, 42] ty #[v, .slice (some ⟨a, ao, none⟩) M.length c]).run Try.prog w = .ok v' w' ∧ Own base w' v' (L ++ M) ∧ ∀ W0, Bel W0 w → W0.heap.size ≤ base → Bel W0 w' := by
  obtain ⟨i0, hi, hz0, hz1, hz2⟩ := info_parts info_vec
  have hml : L.length + M.length ≤ maxLen := by unfold maxLen; omega
  have zs : ∀ k, (Builtin.zeroCells (.agg #[.float .f64 0, .float .f64 0] : Value).cells k).size = k * 2 := fun k => by rw [size_zeroCells]; rfl
  have grown : ∀ old, Own base (w.drew.alloc (.cells ((prRow (px L) (py L) L.length).toArray ++ (prRow (px M) (py M) M.length).toArray ++ Builtin.zeroCells (.agg #[.float .f64 0, .float .f64 0] : Value).cells (grownCap w (L.length + M.length) old 26 - (L.length + M.length))) 26)) (.slice (some ⟨w.heap.size, 0, none⟩) (L ++ M).length (grownCap w (L.length + M.length) old 26)) (L ++ M) := by
    intro old
    have hge := grownCap_ge w (L.length + M.length) old 26
    have hcm := grownCap_le_maxLen w (L.length + M.length) old 26 hml
    refine own_new (w := w.drew) hb (by rw [List.length_append]; exact hge) hcm ?_ (fun j hj => ?_)
    · simp only [Array.size_append, List.size_toArray, prRow_length, zs]
      omega
    · rw [List.length_append] at hj
      rw [Array.getElem?_append_left (by simp only [Array.size_append, List.size_toArray, prRow_length]; omega), ← prRow_app, ← List.getElem?_toArray]
      simp
  have belnew : ∀ cs W0, Bel W0 w → Bel W0 (w.drew.alloc (.cells cs 26)) := fun cs W0 h0 => bl_alloc (bl_drew h0) _ _
  rcases h with ⟨rfl, rfl⟩ | ⟨g, cap, rfl, h1, h2, h3, h4, h5, h6⟩
  · have hr' := run_append_nil (P := Try.prog) w 42 ty 26 i0 (.agg #[.float .f64 0, .float .f64 0]) Try.underlying42 hi hz0 ⟨a, ao, none⟩ M.length c (prRow (px M) (py M) M.length) (by rw [hz1, prRow_length]) (prRow_cells hs) hM (by omega) (by rw [hz2]; simp at hr; omega)
    have hg := grown 0
    simp only [List.length_nil, Nat.zero_add, List.nil_append] at hg
    refine ⟨_, _, hr', ?_, fun W0 h0 _ => belnew _ W0 h0⟩
    simpa [prRow] using hg
  · by_cases hroom : L.length + M.length ≤ cap
    · obtain ⟨r1, r2⟩ := run_app_room w ty g 0 L.length cap a ao M.length c _ _ hs hroom (fun j hj => by rw [Nat.zero_add]; exact h5 _ (by omega)) h6
      have mo : Mo g w (w.setCells g (0 + L.length * 2) (prRow (px M) (py M) M.length)) := (Mo.refl g w).sets _ _
      refine ⟨_, _, r1, .inr ⟨g, cap, by rw [List.length_append], h1, by rw [List.length_append]; exact hroom, h3, ?_, fun j hj => some_sets _ _ _ (h5 j hj), fun o => (mo.fz _).trans (h6 o)⟩, fun W0 h0 hw => mo.bel W0 h0 (by omega)⟩
      rw [List.length_append]
      refine Sl.join (n := L.length) (m := M.length) (us := px M) (vs := py M) (xs := px L) (ys := py L) (fun i hi => ?_) r2 (px_app1 _ _) (py_app1 _ _) (fun i _ => px_app2 _ _ i) (fun i _ => py_app2 _ _ i)
      obtain ⟨k1, k2⟩ := h4 i hi
      exact ⟨(World.cell?_setCells_out g _ _ _ ⟨g, 0 + i * 2, none⟩ (fun _ _ => .inl (by show 0 + i * 2 < 0 + L.length * 2; omega))).trans k1, (World.cell?_setCells_out g _ _ _ ⟨g, 0 + i * 2 + 1, none⟩ (fun _ _ => .inl (by show 0 + i * 2 + 1 < 0 + L.length * 2; omega))).trans k2⟩
    · have hr' := run_append_grow (P := Try.prog) w 42 ty 26 i0 (.agg #[.float .f64 0, .float .f64 0]) Try.underlying42 hi hz0 ⟨g, 0, none⟩ L.length cap (prRow (px L) (py L) L.length) (by rw [hz1, prRow_length]) (prRow_cells h4) ⟨a, ao, none⟩ M.length c (prRow (px M) (py M) M.length) (by rw [hz1, prRow_length]) (prRow_cells hs) (by omega) (by unfold maxLen at hml; omega) (by rw [hz2]; exact growslice_fits (by omega) hr)
      have hg := grown cap
      rw [List.length_append] at hg
      exact ⟨_, _, hr', hg, fun W0 h0 _ => belnew _ W0 h0⟩
/-- 'append' in a walk -/
theorem wpList_app {base : Nat} {w : World} {v : Value} {L M : List Pt} {ops : Array Oper} {rest : List Oper} {o : Oper} {a : Act} {Q : Exit → Act → World → Prop} (hgd : o.guard = none) (s x : Operand)
    (ho : o.op = .call { callee := .builtin .append, args := #[s, x], argTypes := #[42, 42] }) (hv : a.eval s = v) (b ao c : Nat) (hx : a.eval x = .slice (some ⟨b, ao, none⟩) M.length c)
    (h : Own base w v L) (hs : Sl w b ao M.length (px M) (py M)) (hM : 0 < M.length) (hb : base ≤ w.heap.size) (hr : (L.length + M.length) * 16 ≤ 140737488355328)
    (hK : ∀ v' w', Own base w' v' (L ++ M) → (∀ W0, Bel W0 w → W0.heap.size ≤ base → Bel W0 w') → wpList Try.prog ops Q rest (a.put o.dst v') w') : wpList Try.prog ops Q (o :: rest) a w := by
  obtain ⟨v', w', hrun, h1, h2⟩ := run_app o.type b ao c h hs hM hb hr
  refine wpList_plain hgd fun K hK' => ?_
  unfold Oper.wp
  simp [execOp, ho, resolve, invoke, builtin, hv, hx, hrun, Result.andThen]
  exact hK' _ _ (hK v' w' h1 h2)

end Go.Proofs.Ytoofbfjlgablkaa
