/-
  What each function of package island that Join reaches answers, and what the reference of its chapter answers: one contract a function.
-/
import Derived.Test.YtmphpmkhddnfdaaApps
import Derived.Test.YtmphpmkhddnfdaaOncM
import Derived.Test.YtmphpmkhddnfdaaKnot
import Derived.Test.YtmphpmkhddnfdaaChecked
import Derived.Below
import Derived.OwnWalk
import Derived.Laws.AppendOwn
import Derived.Lib.SliceRun
import Derived.Laws.MakeOwn
import Derived.WalkKit
import Derived.WalkLawsBesides
import Derived.WalkSpells
import Derived.ProofKit
import Derived.OpenShut
import Derived.Deep.RegionHeld3
import Derived.Deep.MidRow
import Derived.Laws.EntriesVeiled
import Derived.BigQuiet
import Derived.ChangeKeysEq
namespace Go.Proofs.Ytmphpmkhddnfdaa
open Go.ChangeShapes Go.WideShapes Go.ChangeAt Go.RowKit
set_option linter.unusedVariables false
set_option linter.unusedSimpArgs false

theorem rng_bel {W w' : World} {b o : Nat} {cs : List Value} (h : W.rangeAt b o cs) (g : Bel W w') : w'.rangeAt b o cs := fun j v hv => keep g (h j v hv)
theorem rng_new (w : World) (cs : List Value) (t : TypeId) : (w.alloc (.cells cs.toArray t)).rangeAt w.heap.size 0 cs := fun j v h => by
  rw [Nat.zero_add, World.cell?_alloc_new]; simpa using h
theorem there_new (w : World) (cs : List Value) (t : TypeId) : (w.alloc (.cells cs.toArray t)).there w.heap.size 0 cs.length := fun j hj => by
  refine ⟨?_, ?_⟩
  · rw [(rng_new w cs t) j _ (List.getElem?_eq_getElem hj)]; rfl
  · rw [Nat.zero_add]; exact fz_new j
theorem bel_set1 {w0 w : World} {b o : Nat} {v : Value} (h : Bel w0 w) (hb : w0.heap.size ≤ b) : Bel w0 (w.setCell ⟨b, o, none⟩ v) := bl_set h hb
theorem bel_setsJ {b : Nat} : ∀ (vs : List Value) (o : Nat) {W0 w : World}, Bel W0 w → W0.heap.size ≤ b → Bel W0 (w.setCells b o vs)
  | [], _, _, _, h, _ => h
  | v :: r, o, _, w, h, hb => by rw [World.setCells]; exact bel_setsJ r (o + 1) (bl_set h hb) hb
theorem size_set (w : World) (a : Addr) (v : Value) : (w.setCell a v).heap.size = w.heap.size := by simp
theorem set_far9 {W : World} {b o o' : Nat} {v u : Value} (h : W.cell? ⟨b, o, none⟩ = some v) (n : o' ≠ o) : (W.setCell ⟨b, o', none⟩ u).cell? ⟨b, o, none⟩ = some v := by
  rw [World.cell?_setCell_other _ _ _ _ (by intro e; injection e with _ e2; exact n e2)]; exact h
theorem wpList_runX {w : World} {v u v' : Value} {w' : World} {ops : Array Oper} {rest : List Oper} {o : Oper} {a : Act} {Q : Exit → Act → World → Prop} (t : TypeId) (hgd : o.guard = none) (s x : Operand)
    (ho : o.op = .call { callee := .builtin .append, args := #[s, x], argTypes := #[t, t] }) (hv : a.eval s = v) (hx : a.eval x = u) (hrun : (Builtin.append_ #[t, t] o.type #[v, u]).run Try.prog w = .ok v' w')
    (hK : wpList Try.prog ops Q rest (a.put o.dst v') w') : wpList Try.prog ops Q (o :: rest) a w := by
  refine wpList_plain hgd fun K hK' => ?_
  unfold Oper.wp
  simp [execOp, ho, resolve, invoke, builtin, hv, hx, hrun, Result.andThen]
  exact hK' _ _ hK
theorem info_int : (Try.prog.info? 3).map (fun i => (i.zero, i.size, i.bytes)) = some (some (.int .i64 0), 1, 8) := by kernel_rfl
/-- numbers that lie one behind the other, and may be written -/
structure IntM (w : World) (b n : Nat) (X : Nat → Int) : Prop where
  at_ : ∀ i, i < n → w.cell? ⟨b, i, none⟩ = some (.int .i64 (X i))
  fr : ∀ i, i < n → w.frozen? ⟨b, i, none⟩ = false
theorem IntM.bel {w w' : World} {b n : Nat} {X : Nat → Int} (h : IntM w b n X) (g : Bel w w') : IntM w' b n X := ⟨fun i hi => keep g (h.at_ i hi), fun i hi => by rw [g.2]; exact h.fr i hi⟩
theorem IntM.fx {F : List Nat} {w w' : World} {b n : Nat} {X : Nat → Int} (h : IntM w b n X) (g : Fx F w w') (hb : b ∉ F) : IntM w' b n X := ⟨fun i hi => g.cell hb (h.at_ i hi), fun i hi => by rw [g.froz]; exact h.fr i hi⟩
def updI (X : Nat → Int) (i : Nat) (v : Int) : Nat → Int := fun j => if j = i then v else X j
theorem IntM.set {w : World} {b n i : Nat} {X : Nat → Int} {v : Int} (h : IntM w b n X) (hi : i < n) : IntM (w.setCell ⟨b, i, none⟩ (.int .i64 v)) b n (updI X i v) := by
  refine ⟨fun j hj => ?_, fun j hj => by rw [World.frozen?_setCell]; exact h.fr j hj⟩
  unfold updI
  by_cases e : i = j
  · subst e
    rw [World.cell?_setCell_same _ _ _ (h.at_ i hi), if_pos rfl]
  · rw [set_far9 (h.at_ j hj) e, if_neg (Ne.symm e)]
theorem IntM.congr {w : World} {b n : Nat} {X Y : Nat → Int} (h : IntM w b n X) (e : ∀ i, i < n → X i = Y i) : IntM w b n Y := ⟨fun i hi => by rw [← e i hi]; exact h.at_ i hi, h.fr⟩
/-- pairs of numbers that lie one behind the other -/
def Prs (w : World) (b off m : Nat) (A B : Nat → Int) : Prop := ∀ i, i < m → w.rangeAt b (off + i * 2) [.int .i64 (A i), .int .i64 (B i)]
theorem Prs.bel {w w' : World} {b off m : Nat} {A B : Nat → Int} (h : Prs w b off m A B) (g : Bel w w') : Prs w' b off m A B := fun i hi => rng_bel (h i hi) g
theorem Fx.set1 {F : List Nat} {a b : World} (h : Fx F a b) {g : Nat} (hg : g ∈ F) (o : Nat) (v : Value) : Fx F a (b.setCell ⟨g, o, none⟩ v) := h.sets hg o [v]

/-! ### What hangs together -/
inductive Con (A B : Nat → Int) (m : Nat) : Nat → Nat → Prop where
  | refl (x : Nat) : Con A B m x x
  | step {x y z i : Nat} : Con A B m x y → i < m → ((A i = (y : Int) ∧ B i = (z : Int)) ∨ (A i = (z : Int) ∧ B i = (y : Int))) → Con A B m x z
theorem Con.trans {A B : Nat → Int} {m x y z : Nat} (h : Con A B m x y) (k : Con A B m y z) : Con A B m x z := by
  induction k with
  | refl => exact h
  | step _ hi hl ih => exact .step ih hi hl
theorem Con.symm {A B : Nat → Int} {m x y : Nat} (h : Con A B m x y) : Con A B m y x := by
  induction h with
  | refl => exact .refl _
  | step _ hi hl ih => exact (Con.step (.refl _) hi (hl.symm.imp id id)).trans ih
theorem Con.link {A B : Nat → Int} {m i x y : Nat} (hi : i < m) (ha : A i = (x : Int)) (hb : B i = (y : Int)) : Con A B m x y := .step (.refl _) hi (.inl ⟨ha, hb⟩)
/-- f says of each the least one that it hangs together with -/
structure Lst (n m : Nat) (A B : Nat → Int) (f : Nat → Nat) : Prop where
  le : ∀ i, i < n → f i ≤ i
  con : ∀ i, i < n → Con A B m i (f i)
  eq : ∀ i, i < m → f (A i).toNat = f (B i).toNat
theorem Con.same {A B : Nat → Int} {m x y : Nat} {f : Nat → Nat} (h : Con A B m x y) (he : ∀ i, i < m → f (A i).toNat = f (B i).toNat) : f x = f y := by
  induction h with
  | refl => rfl
  | @step y z i _ hi hl ih =>
    have e := he i hi
    rcases hl with ⟨h1, h2⟩ | ⟨h1, h2⟩
    · rw [h1, h2] at e; simpa using ih.trans (by simpa using e)
    · rw [h1, h2] at e; simpa using ih.trans (by simpa using e.symm)
theorem Lst.uniq {n m : Nat} {A B : Nat → Int} {f g : Nat → Nat} (h : Lst n m A B f) (k : Lst n m A B g) (i : Nat) (hi : i < n) : f i = g i := by
  have h1 : f i = f (g i) := (k.con i hi).same h.eq
  have h2 : g i = g (f i) := (h.con i hi).same k.eq
  have h3 := h.le (g i) (Nat.lt_of_le_of_lt (k.le i hi) hi)
  have h4 := k.le (f i) (Nat.lt_of_le_of_lt (h.le i hi) hi)
  omega

/-! ### The root of an array of parents -/
def rt (P : Nat → Nat) (i : Nat) : Nat := if h : P i < i then rt P (P i) else i
theorem rt_lt {P : Nat → Nat} {i : Nat} (h : P i < i) : rt P i = rt P (P i) := by rw [rt, dif_pos h]
theorem rt_self {P : Nat → Nat} {i : Nat} (h : ¬ P i < i) : rt P i = i := by rw [rt, dif_neg h]
theorem rt_le (P : Nat → Nat) (i : Nat) : rt P i ≤ i := by
  induction i using Nat.strongRecOn with
  | _ i ih =>
    by_cases h : P i < i
    · rw [rt_lt h]; have := ih _ h; omega
    · rw [rt_self h]; omega
theorem rt_root (P : Nat → Nat) (i : Nat) : ¬ P (rt P i) < rt P i := by
  induction i using Nat.strongRecOn with
  | _ i ih =>
    by_cases h : P i < i
    · rw [rt_lt h]; exact ih _ h
    · rw [rt_self h]; exact h
theorem rt_rt (P : Nat → Nat) (i : Nat) : rt P (rt P i) = rt P i := rt_self (rt_root P i)
def updN (P : Nat → Nat) (i v : Nat) : Nat → Nat := fun j => if j = i then v else P j
theorem upd_self (P : Nat → Nat) (i v : Nat) : updN P i v i = v := if_pos rfl
theorem upd_ne {P : Nat → Nat} {i v j : Nat} (h : j ≠ i) : updN P i v j = P j := if_neg h
theorem rt_press (P : Nat → Nat) (i : Nat) : ∀ j, rt (updN P i (rt P i)) j = rt P j := by
  intro j
  induction j using Nat.strongRecOn with
  | _ j ih =>
    by_cases e : j = i
    · subst e
      by_cases h : rt P j < j
      · have h1 : updN P j (rt P j) j < j := by rw [upd_self]; exact h
        rw [rt_lt h1, upd_self, ih _ h, rt_rt]
      · have h1 : ¬ updN P j (rt P j) j < j := by rw [upd_self]; exact h
        have := rt_le P j
        rw [rt_self h1]; omega
    · have e2 := upd_ne (P := P) (v := rt P i) e
      by_cases h : P j < j
      · rw [rt_lt (by rw [e2]; exact h), e2, ih _ h, rt_lt h]
      · rw [rt_self (by rw [e2]; exact h), rt_self h]
theorem rt_join (P : Nat → Nat) (lo hi : Nat) (hl : lo ≤ hi) (h1 : ¬ P hi < hi) (h2 : ¬ P lo < lo) : ∀ j, rt (updN P hi lo) j = if rt P j = hi then lo else rt P j := by
  intro j
  induction j using Nat.strongRecOn with
  | _ j ih =>
    by_cases e : j = hi
    · subst e
      rw [rt_self h1, if_pos rfl]
      by_cases h : lo < j
      · rw [rt_lt (by rw [upd_self]; exact h), upd_self, ih _ h, rt_self h2, if_neg (by omega)]
      · rw [rt_self (by rw [upd_self]; exact h)]; omega
    · have e2 := upd_ne (P := P) (v := lo) e
      by_cases h : P j < j
      · rw [rt_lt (by rw [e2]; exact h), e2, ih _ h, rt_lt h]
      · rw [rt_self (by rw [e2]; exact h), rt_self h, if_neg e]
theorem upd_le {P : Nat → Nat} {i v : Nat} (h : ∀ j, P j ≤ j) (hv : v ≤ i) : ∀ j, updN P i v j ≤ j := fun j => by
  by_cases e : j = i
  · subst e; rw [upd_self]; exact hv
  · rw [upd_ne e]; exact h j
def nI (P : Nat → Nat) : Nat → Int := fun i => (P i : Int)
theorem nI_upd (P : Nat → Nat) (i v : Nat) : updI (nI P) i (v : Int) = nI (updN P i v) := by
  funext j; unfold updI nI updN; split <;> rfl

end Go.Proofs.Ytmphpmkhddnfdaa
