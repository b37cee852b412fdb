/-
  Plain facts that go together.
-/
import Derived.Test.YtdeooadeohojcaaGreatVec
import Derived.Test.YtdeooadeohojcaaGreatPh
import Derived.Below
import Derived.Laws.AppendOwn
import Derived.Laws.IdiomCopy
import Derived.OwnWalk
import Derived.WideShapes
import Derived.WalkKit
import Derived.WalkLawsBesides
import Derived.WalkSpells
import Derived.ProofKit
import Derived.OpenShut
import Derived.Deep.RegionHeld3
import Derived.Lib.SliceRun
import Derived.WalkMore
namespace Go.Proofs.YtdeooadeohojcaaGreat
open Go.ChangeShapes Go.WideShapes Go.ChangeAt Go.RowKit
set_option linter.unusedVariables false
set_option linter.unusedSimpArgs false


theorem info_vec : (Tryz.prog.info? 24).map (fun i => (i.zero, i.size, i.bytes)) = some (some (.agg #[.float .f64 0, .float .f64 0]), 2, 16) := by kernel_rfl
/-- the cells of a row of points -/
def prRow (xs ys : Nat → Nat) (k : Nat) : List Value := (List.range (k * 2)).map fun j => .float .f64 (if j % 2 = 0 then xs (j / 2) else ys (j / 2))
theorem prRow_length (xs ys : Nat → Nat) (k : Nat) : (prRow xs ys k).length = k * 2 := by simp [prRow]
theorem prRow_get (xs ys : Nat → Nat) (k j : Nat) (h : j < k * 2) : (prRow xs ys k)[j]? = some (.float .f64 (if j % 2 = 0 then xs (j / 2) else ys (j / 2))) := by simp [prRow, h]
theorem prRow_one (xs ys : Nat → Nat) (k : Nat) : ∀ u ∈ prRow xs ys k, u.oneCell' = true := by
  intro u hu; simp [prRow] at hu; obtain ⟨a, _, rfl⟩ := hu; rfl
theorem prRow_cells {w : World} {b off n : Nat} {xs ys : Nat → Nat} (hs : Sl w b off n xs ys) : ∀ j u, (prRow xs ys n)[j]? = some u → w.cell? ((⟨b, off, none⟩ : Addr).add j) = some u := by
  intro j u hj
  have hjl : j < n * 2 := by
    rcases Nat.lt_or_ge j (n * 2) with h | h
    · exact h
    · rw [List.getElem?_eq_none (by rw [prRow_length]; exact h)] at hj; cases hj
  rw [prRow_get _ _ _ _ hjl] at hj
  injection hj with hj
  subst hj
  obtain ⟨e1, e2⟩ := hs (j / 2) (by omega)
  rw [add_plain]
  rcases Nat.mod_two_eq_zero_or_one j with h | h
  · rw [if_pos h]
    have : j / 2 * 2 = j := by omega
    rw [this] at e1
    exact e1
  · rw [if_neg (by omega)]
    have : j / 2 * 2 + 1 = j := by omega
    rw [Nat.add_assoc, this] at e2
    exact e2
/-- cells that hold a row hold its points -/
theorem sl_of {w : World} {b off n : Nat} {xs ys : Nat → Nat} (h : ∀ j, j < n * 2 → w.cell? ⟨b, off + j, none⟩ = (prRow xs ys n)[j]?) : Sl w b off n xs ys := by
  intro i hi
  have h1 := h (i * 2) (by omega)
  have h2 := h (i * 2 + 1) (by omega)
  rw [prRow_get _ _ _ _ (by omega), if_pos (by omega), show i * 2 / 2 = i by omega] at h1
  rw [prRow_get _ _ _ _ (by omega), if_neg (by omega), show (i * 2 + 1) / 2 = i by omega] at h2
  exact ⟨h1, by rw [Nat.add_assoc]; exact h2⟩
theorem Sl.join {w : World} {b off n m : Nat} {xs ys us vs zs ws : Nat → Nat} (h : Sl w b off n xs ys) (g : Sl w b (off + n * 2) m us vs) (e1 : ∀ i, i < n → zs i = xs i) (e2 : ∀ i, i < n → ws i = ys i) (e3 : ∀ i, i < m → zs (n + i) = us i) (e4 : ∀ i, i < m → ws (n + i) = vs i) : Sl w b off (n + m) zs ws := by
  intro i hi
  by_cases hl : i < n
  · rw [e1 i hl, e2 i hl]; exact h i hl
  · obtain ⟨j, rfl⟩ : ∃ j, i = n + j := ⟨i - n, by omega⟩
    rw [e3 j (by omega), e4 j (by omega)]
    obtain ⟨h1, h2⟩ := g j (by omega)
    rw [show off + (n + j) * 2 = off + n * 2 + j * 2 by omega]
    exact ⟨h1, h2⟩
theorem px_app1 (L M : List Pt) : ∀ i, i < L.length → px (L ++ M) i = px L i := fun i hi => by
  unfold px pt; rw [List.getD_eq_getElem?_getD, List.getD_eq_getElem?_getD, List.getElem?_append_left hi]
theorem py_app1 (L M : List Pt) : ∀ i, i < L.length → py (L ++ M) i = py L i := fun i hi => by
  unfold py pt; rw [List.getD_eq_getElem?_getD, List.getD_eq_getElem?_getD, List.getElem?_append_left hi]
theorem px_app2 (L M : List Pt) (i : Nat) : px (L ++ M) (L.length + i) = px M i := by
  unfold px pt; rw [List.getD_eq_getElem?_getD, List.getD_eq_getElem?_getD, List.getElem?_append_right (by omega), Nat.add_sub_cancel_left]
theorem py_app2 (L M : List Pt) (i : Nat) : py (L ++ M) (L.length + i) = py M i := by
  unfold py pt; rw [List.getD_eq_getElem?_getD, List.getD_eq_getElem?_getD, List.getElem?_append_right (by omega), Nat.add_sub_cancel_left]
theorem Mo.sets {b : Nat} : ∀ (vs : List Value) (o : Nat) {w w1 : World}, Mo b w w1 → Mo b w (w1.setCells b o vs) := by
  intro vs
  induction vs with
  | nil => intro o w w1 h; exact h
  | cons v r ih => intro o w w1 h; exact ih (o + 1) h.set
theorem some_sets {b x : Nat} : ∀ (vs : List Value) (o : Nat) (w : World), (w.cell? ⟨b, x, none⟩).isSome = true → ((w.setCells b o vs).cell? ⟨b, x, none⟩).isSome = true := by
  intro vs
  induction vs with
  | nil => intro o w h; exact h
  | cons v r ih =>
    intro o w h
    refine ih (o + 1) _ ?_
    by_cases e : o = x
    · subst e
      obtain ⟨u, hu⟩ := Option.isSome_iff_exists.1 h
      rw [World.cell?_setCell_same _ _ _ hu]; rfl
    · rw [far_off e]; exact h
/-- what is put behind a row that has room -/
theorem run_app_room (w : World) (ty g off n cap a ao m c : Nat) (us vs : Nat → Nat) (hs : Sl w a ao m us vs) (hroom : n + m ≤ cap) (hx : ∀ j, j < m * 2 → (w.cell? ⟨g, off + n * 2 + j, none⟩).isSome = true) (hf : ∀ o, w.frozen? ⟨g, o, none⟩ = false) :
    (Builtin.append_ #[25, 25] ty #[.slice (some ⟨g, off, none⟩) n cap, .slice (some ⟨a, ao, none⟩) m c]).run Tryz.prog w = .ok (.slice (some ⟨g, off, none⟩) (n + m) cap) (w.setCells g (off + n * 2) (prRow us vs m)) ∧ Sl (w.setCells g (off + n * 2) (prRow us vs m)) g (off + n * 2) m us vs := by
  obtain ⟨i0, hi, hz0, hz1, hz2⟩ := info_parts info_vec
  have hf1 := run_firstCells_some (P := Tryz.prog) w 2 m ⟨a, ao, none⟩ m c (prRow us vs m) (prRow_length _ _ _) (prRow_cells hs)
  have hst := run_storeCells_cells (P := Tryz.prog) g (off + n * 2) (prRow us vs m) 0 w (by rw [prRow_length]; simpa using hx) (fun j _ => hf _) (prRow_one _ _ _)
  simp only [Nat.add_zero] at hst
  constructor
  · simp [Builtin.append_, run_underlying Tryz.underlying25, sizeOf, typeInfo, hi, hz1, Builtin.lenOf, hroom, hf1, add_plain, hst]
  · refine sl_of fun j hj => ?_
    have hj' : j < (prRow us vs m).length := by rw [prRow_length]; exact hj
    rw [World.cell?_setCells_in g _ _ w (by rw [prRow_length]; exact hx) j hj', List.getElem?_eq_getElem hj']
/-- a row of the call's own, of points -/
def Own (base : Nat) (w : World) (v : Value) (L : List Pt) : Prop :=
  (v = .slice none 0 0 ∧ L = []) ∨ ∃ g cap, v = .slice (some ⟨g, 0, none⟩) L.length cap ∧ base ≤ g ∧ L.length ≤ cap ∧ cap ≤ maxLen ∧ Sl w g 0 L.length (px L) (py L) ∧ (∀ j, j < cap * 2 → (w.cell? ⟨g, j, none⟩).isSome = true) ∧ ∀ o, w.frozen? ⟨g, o, none⟩ = false
theorem Own.nil (base : Nat) (w : World) : Own base w (.slice none 0 0) [] := .inl ⟨rfl, rfl⟩
theorem Own.bel {base : Nat} {w w' : World} {v : Value} {L : List Pt} (h : Own base w v L) (g : Bel w w') : Own base w' v L := by
  rcases h with h | ⟨k, cap, e, h1, h2, h3, h4, h5, h6⟩
  · exact .inl h
  · refine .inr ⟨k, cap, e, h1, h2, h3, h4.bel g, fun j hj => ?_, fun o => (g.2 _).trans (h6 o)⟩
    obtain ⟨u, hu⟩ := Option.isSome_iff_exists.1 (h5 j hj)
    rw [keep g hu]; rfl
theorem own_new {base : Nat} {w : World} {L : List Pt} {cs : Array Value} {cap : Nat} (hb : base ≤ w.heap.size) (hl : L.length ≤ cap) (hm : cap ≤ maxLen) (hs : cs.size = cap * 2) (hc : ∀ j, j < L.length * 2 → cs[j]? = (prRow (px L) (py L) L.length)[j]?) : Own base (w.alloc (.cells cs 24)) (.slice (some ⟨w.heap.size, 0, none⟩) L.length cap) L := by
  refine .inr ⟨_, _, rfl, hb, hl, hm, sl_of fun j hj => ?_, fun j hj => ?_, fun o => fz_alloc (fresh_frozen (Nat.le_refl _))⟩
  · rw [Nat.zero_add, World.cell?_alloc_new]; exact hc j hj
  · rw [World.cell?_alloc_new, Array.getElem?_eq_getElem (by rw [hs]; exact hj)]; rfl
theorem prRow_app (L M : List Pt) : prRow (px L) (py L) L.length ++ prRow (px M) (py M) M.length = prRow (px (L ++ M)) (py (L ++ M)) (L ++ M).length := by
  apply List.ext_getElem?
  intro j
  rw [List.length_append]
  by_cases h1 : j < L.length * 2
  · rw [List.getElem?_append_left (by rw [prRow_length]; exact h1), prRow_get _ _ _ _ h1, prRow_get _ _ _ _ (by omega), px_app1 _ _ _ (by omega), py_app1 _ _ _ (by omega)]
  · rw [List.getElem?_append_right (by rw [prRow_length]; omega), prRow_length]
    by_cases h2 : j < (L.length + M.length) * 2
    · rw [prRow_get _ _ _ _ (by omega), prRow_get _ _ _ _ h2]
      have e1 : j / 2 = L.length + (j - L.length * 2) / 2 := by omega
      have e2 : j % 2 = (j - L.length * 2) % 2 := by omega
      rw [e1, px_app2, py_app2, e2]
    · rw [List.getElem?_eq_none (by rw [prRow_length]; omega), List.getElem?_eq_none (by rw [prRow_length]; omega)]
/-- points that lie somewhere, put behind a row of the call's own -/
theorem run_app {base : Nat} {w : World} {v : Value} {L M : List Pt} (ty a ao c : Nat) (h : Own base w v L) (hs : Sl w a ao M.length (px M) (py M)) (hM : 0 < M.length) (hb : base ≤ w.heap.size) (hr : (L.length + M.length) * 16 ≤ 140737488355328) :
    ∃ v' w', (Builtin.append_ #[25, 25] ty #[v, .slice (some ⟨a, ao, none⟩) M.length c]).run Tryz.prog w = .ok v' w' ∧ Own base w' v' (L ++ M) ∧ ∀ W0, Bel W0 w → W0.heap.size ≤ base → Bel W0 w' := by
  obtain ⟨i0, hi, hz0, hz1, hz2⟩ := info_parts info_vec
  have hml : L.length + M.length ≤ maxLen := by unfold maxLen; omega
  have zs : ∀ k, (Builtin.zeroCells (.agg #[.float .f64 0, .float .f64 0] : Value).cells k).size = k * 2 := fun k => by rw [size_zeroCells]; rfl
  have grown : ∀ old, Own base (w.drew.alloc (.cells ((prRow (px L) (py L) L.length).toArray ++ (prRow (px M) (py M) M.length).toArray ++ Builtin.zeroCells (.agg #[.float .f64 0, .float .f64 0] : Value).cells (grownCap w (L.length + M.length) old 24 - (L.length + M.length))) 24)) (.slice (some ⟨w.heap.size, 0, none⟩) (L ++ M).length (grownCap w (L.length + M.length) old 24)) (L ++ M) := by
    intro old
    have hge := grownCap_ge w (L.length + M.length) old 24
    have hcm := grownCap_le_maxLen w (L.length + M.length) old 24 hml
    refine own_new (w := w.drew) hb (by rw [List.length_append]; exact hge) hcm ?_ (fun j hj => ?_)
    · simp only [Array.size_append, List.size_toArray, prRow_length, zs]
      omega
    · rw [List.length_append] at hj
      rw [Array.getElem?_append_left (by simp only [Array.size_append, List.size_toArray, prRow_length]; omega), ← prRow_app, ← List.getElem?_toArray]
      simp
  have belnew : ∀ cs W0, Bel W0 w → Bel W0 (w.drew.alloc (.cells cs 24)) := fun cs W0 h0 => bl_alloc (bl_drew h0) _ _
  rcases h with ⟨rfl, rfl⟩ | ⟨g, cap, rfl, h1, h2, h3, h4, h5, h6⟩
  · have hr' := run_append_nil (P := Tryz.prog) w 25 ty 24 i0 (.agg #[.float .f64 0, .float .f64 0]) Tryz.underlying25 hi hz0 ⟨a, ao, none⟩ M.length c (prRow (px M) (py M) M.length) (by rw [hz1, prRow_length]) (prRow_cells hs) hM (by omega) (by rw [hz2]; simp at hr; omega)
    have hg := grown 0
    simp only [List.length_nil, Nat.zero_add, List.nil_append] at hg
    refine ⟨_, _, hr', ?_, fun W0 h0 _ => belnew _ W0 h0⟩
    simpa [prRow] using hg
  · by_cases hroom : L.length + M.length ≤ cap
    · obtain ⟨r1, r2⟩ := run_app_room w ty g 0 L.length cap a ao M.length c _ _ hs hroom (fun j hj => by rw [Nat.zero_add]; exact h5 _ (by omega)) h6
      have mo : Mo g w (w.setCells g (0 + L.length * 2) (prRow (px M) (py M) M.length)) := (Mo.refl g w).sets _ _
      refine ⟨_, _, r1, .inr ⟨g, cap, by rw [List.length_append], h1, by rw [List.length_append]; exact hroom, h3, ?_, fun j hj => some_sets _ _ _ (h5 j hj), fun o => (mo.fz _).trans (h6 o)⟩, fun W0 h0 hw => mo.bel W0 h0 (by omega)⟩
      rw [List.length_append]
      refine Sl.join (n := L.length) (m := M.length) (us := px M) (vs := py M) (xs := px L) (ys := py L) (fun i hi => ?_) r2 (px_app1 _ _) (py_app1 _ _) (fun i _ => px_app2 _ _ i) (fun i _ => py_app2 _ _ i)
      obtain ⟨k1, k2⟩ := h4 i hi
      exact ⟨(World.cell?_setCells_out g _ _ _ ⟨g, 0 + i * 2, none⟩ (fun _ _ => .inl (by show 0 + i * 2 < 0 + L.length * 2; omega))).trans k1, (World.cell?_setCells_out g _ _ _ ⟨g, 0 + i * 2 + 1, none⟩ (fun _ _ => .inl (by show 0 + i * 2 + 1 < 0 + L.length * 2; omega))).trans k2⟩
    · have hr' := run_append_grow (P := Tryz.prog) w 25 ty 24 i0 (.agg #[.float .f64 0, .float .f64 0]) Tryz.underlying25 hi hz0 ⟨g, 0, none⟩ L.length cap (prRow (px L) (py L) L.length) (by rw [hz1, prRow_length]) (prRow_cells h4) ⟨a, ao, none⟩ M.length c (prRow (px M) (py M) M.length) (by rw [hz1, prRow_length]) (prRow_cells hs) (by omega) (by unfold maxLen at hml; omega) (by rw [hz2]; exact growslice_fits (by omega) hr)
      have hg := grown cap
      rw [List.length_append] at hg
      exact ⟨_, _, hr', hg, fun W0 h0 _ => belnew _ W0 h0⟩
/-- 'append' in a walk -/
theorem wpList_app {base : Nat} {w : World} {v : Value} {L M : List Pt} {ops : Array Oper} {rest : List Oper} {o : Oper} {a : Act} {Q : Exit → Act → World → Prop} (hgd : o.guard = none) (s x : Operand)
    (ho : o.op = .call { callee := .builtin .append, args := #[s, x], argTypes := #[25, 25] }) (hv : a.eval s = v) (b ao c : Nat) (hx : a.eval x = .slice (some ⟨b, ao, none⟩) M.length c)
    (h : Own base w v L) (hs : Sl w b ao M.length (px M) (py M)) (hM : 0 < M.length) (hb : base ≤ w.heap.size) (hr : (L.length + M.length) * 16 ≤ 140737488355328)
    (hK : ∀ v' w', Own base w' v' (L ++ M) → (∀ W0, Bel W0 w → W0.heap.size ≤ base → Bel W0 w') → wpList Tryz.prog ops Q rest (a.put o.dst v') w') : wpList Tryz.prog ops Q (o :: rest) a w := by
  obtain ⟨v', w', hrun, h1, h2⟩ := run_app o.type b ao c h hs hM hb hr
  refine wpList_plain hgd fun K hK' => ?_
  unfold Oper.wp
  simp [execOp, ho, resolve, invoke, builtin, hv, hx, hrun, Result.andThen]
  exact hK' _ _ (hK v' w' h1 h2)

end Go.Proofs.YtdeooadeohojcaaGreat

namespace Go.Proofs.YtdeooadeohojcaaGreat
open Go.ChangeShapes Go.WideShapes Go.ChangeAt Go.RowKit
set_option linter.unusedVariables false
set_option linter.unusedSimpArgs false


theorem pt_end (L : List Pt) (p : Pt) : pt (L ++ [p]) L.length = p := by
  unfold pt; rw [List.getD_eq_getElem?_getD, List.getElem?_append_right (Nat.le_refl _), Nat.sub_self]; rfl
theorem Sl.put {w : World} {b off m : Nat} {D : List Pt} {p : Pt} (hD : D.length = m) (h : Sl w b off m (px D) (py D)) (x0 : (w.cell? ⟨b, off + m * 2, none⟩).isSome = true) (x1 : (w.cell? ⟨b, off + m * 2 + 1, none⟩).isSome = true) :
    Sl ((w.setCell ⟨b, off + m * 2, none⟩ (.float .f64 p.1)).setCell ⟨b, off + m * 2 + 1, none⟩ (.float .f64 p.2)) b off (m + 1) (px (D ++ [p])) (py (D ++ [p])) := by
  obtain ⟨u0, x0⟩ := Option.isSome_iff_exists.1 x0
  obtain ⟨u1, x1⟩ := Option.isSome_iff_exists.1 x1
  intro i hi
  by_cases e : i = m
  · subst e
    have e1 : px (D ++ [p]) i = p.1 := by unfold px; rw [← hD, pt_end]
    have e2 : py (D ++ [p]) i = p.2 := by unfold py; rw [← hD, pt_end]
    rw [e1, e2]
    exact ⟨cell_apart (by omega) (World.cell?_setCell_same _ _ _ x0), World.cell?_setCell_same _ _ _ (cell_apart (by omega) x1)⟩
  · rw [px_app1 _ _ _ (by omega), py_app1 _ _ _ (by omega)]
    obtain ⟨h1, h2⟩ := h i (by omega)
    exact ⟨cell_apart (by omega) (cell_apart (by omega) h1), cell_apart (by omega) (cell_apart (by omega) h2)⟩
end Go.Proofs.YtdeooadeohojcaaGreat

namespace Go.Proofs.YtdeooadeohojcaaGreat
open Go.ChangeShapes Go.WideShapes Go.ChangeAt Go.RowKit
set_option linter.unusedVariables false
set_option linter.unusedSimpArgs false


theorem wpList_run {w : World} {v u v' : Value} {w' : World} {ops : Array Oper} {rest : List Oper} {o : Oper} {a : Act} {Q : Exit → Act → World → Prop} (hgd : o.guard = none) (s x : Operand)
    (ho : o.op = .call { callee := .builtin .append, args := #[s, x], argTypes := #[25, 25] }) (hv : a.eval s = v) (hx : a.eval x = u) (hrun : ∀ ty, (Builtin.append_ #[25, 25] ty #[v, u]).run Tryz.prog w = .ok v' w')
    (hK : wpList Tryz.prog ops Q rest (a.put o.dst v') w') : wpList Tryz.prog ops Q (o :: rest) a w := by
  refine wpList_plain hgd fun K hK' => ?_
  unfold Oper.wp
  simp [execOp, ho, resolve, invoke, builtin, hv, hx, hrun, Result.andThen]
  exact hK' _ _ hK
theorem one_sl (W : World) (p : Pt) : Sl (W.alloc (.cells #[.float .f64 p.1, .float .f64 p.2] 24)) W.heap.size 0 1 (px [p]) (py [p]) := by
  intro i hi
  rw [show i = 0 by omega]
  exact cell_own rfl _ _ _
/-- points of a size -/
def GdL (L : List Pt) : Prop := ∀ p, p ∈ L → Bd 40 p.1 ∧ Bd 40 p.2
theorem GdL.gd {L : List Pt} (h : GdL L) : Gd (px L) (py L) L.length := fun i hi => h _ (pt_mem hi)
end Go.Proofs.YtdeooadeohojcaaGreat

namespace Go.Proofs.YtdeooadeohojcaaGreat
open Go.ChangeShapes Go.WideShapes Go.ChangeAt Go.RowKit
set_option linter.unusedVariables false
set_option linter.unusedSimpArgs false


theorem Own.get {base : Nat} {w : World} {v : Value} {L : List Pt} (h : Own base w v L) (hl : 0 < L.length) : ∃ g c, v = .slice (some ⟨g, 0, none⟩) L.length c ∧ base ≤ g ∧ L.length ≤ c ∧ c ≤ maxLen ∧ Sl w g 0 L.length (px L) (py L) ∧ ∀ o, w.frozen? ⟨g, o, none⟩ = false := by
  rcases h with ⟨_, h⟩ | ⟨g, c, h1, h2, h3, h4, h5, _, h7⟩
  · rw [h] at hl; cases hl
  · exact ⟨g, c, h1, h2, h3, h4, h5, h7⟩
end Go.Proofs.YtdeooadeohojcaaGreat

namespace Go.Proofs.YtdeooadeohojcaaGreat
open Go.ChangeShapes Go.WideShapes Go.ChangeAt Go.RowKit
set_option linter.unusedVariables false
set_option linter.unusedSimpArgs false


/-- a row of points: none, or n of them in cells -/
def AnyS (w : World) (V : Value) (n : Nat) (xs ys : Nat → Nat) : Prop := ∃ a cap, V = .slice a n cap ∧ n ≤ cap ∧ n ≤ maxLen ∧ n * 16 ≤ 140737488351232 ∧ Oks xs ys n ∧ (n = 0 ∨ (0 < n ∧ ∃ b off, a = some ⟨b, off, none⟩ ∧ Sl w b off n xs ys))
theorem AnyS.bel {w w' : World} {V : Value} {n : Nat} {xs ys : Nat → Nat} (h : AnyS w V n xs ys) (g : Bel w w') : AnyS w' V n xs ys := by
  obtain ⟨a, cap, h1, h2, h3, h4, h5, h6⟩ := h
  refine ⟨a, cap, h1, h2, h3, h4, h5, ?_⟩
  rcases h6 with h | ⟨h0, b, off, h, hs⟩
  · exact .inl h
  · exact .inr ⟨h0, b, off, h, hs.bel g⟩
def lst (xs ys : Nat → Nat) (n : Nat) : List Pt := (List.range n).map fun i => (xs i, ys i)
theorem lst_len (xs ys : Nat → Nat) (n : Nat) : (lst xs ys n).length = n := by simp [lst]
theorem lst_x (xs ys : Nat → Nat) (n : Nat) : ∀ i, i < n → px (lst xs ys n) i = xs i := fun i hi => by unfold px pt lst; rw [List.getD_eq_getElem?_getD]; simp [hi]
theorem lst_y (xs ys : Nat → Nat) (n : Nat) : ∀ i, i < n → py (lst xs ys n) i = ys i := fun i hi => by unfold py pt lst; rw [List.getD_eq_getElem?_getD]; simp [hi]
theorem run_app0 (w : World) (ty c : Nat) (a : Option Addr) : (Builtin.append_ #[25, 25] ty #[.slice none 0 0, .slice a 0 c]).run Tryz.prog w = .ok (.slice none 0 0) w := by
  obtain ⟨i0, hi, hz0, hz1, hz2⟩ := info_parts info_vec
  cases a <;> simp [Builtin.append_, run_underlying Tryz.underlying25, sizeOf, typeInfo, hi, Builtin.lenOf, Builtin.firstCells, loadCells, loadCellsFrom]
/-- points that were lent: in memory of their own, with marks behind -/
def Lent (w : World) (g c n : Nat) (xs ys : Nat → Nat) : Prop := n + 2 ≤ c ∧ c ≤ maxLen ∧ Sl w g 0 n xs ys ∧ w.cell? ⟨g, n * 2, none⟩ = some (.float .f64 4635118810238550016) ∧ w.cell? ⟨g, (n + 1) * 2, none⟩ = some (.float .f64 4635189178982727680)
theorem Lent.bel {w w' : World} {g c n : Nat} {xs ys : Nat → Nat} (h : Lent w g c n xs ys) (b : Bel w w') : Lent w' g c n xs ys := ⟨h.1, h.2.1, h.2.2.1.bel b, keep b h.2.2.2.1, keep b h.2.2.2.2⟩
end Go.Proofs.YtdeooadeohojcaaGreat
