/-
  What each function of package poly answers, and what the reference of its chapter answers: one contract a function, for every float: the answer stands in the relation of its formula to what was given; of the memory that was there nothing has turned.
-/
import Derived.Test.YtfjlonnmhioleaaVec
import Derived.Test.YtfjlonnmhioleaaJe
import Derived.Test.YtfjlonnmhioleaaAppr
import Derived.Below
import Derived.WalkKit
import Derived.WalkLawsBesides
import Derived.WalkSpells
import Derived.ProofKit
import Derived.OpenShut
import Derived.Deep.RegionHeld3
namespace Go.Proofs.Ytfjlonnmhioleaa
open Go.ChangeShapes Go.WideShapes Go.ChangeAt Go.RowKit
set_option linter.unusedVariables false
set_option linter.unusedSimpArgs false


/-- a row's words -/
structure RD where
  ra : Int
  rb : Int
  r2 : Nat
  r3 : Nat
  r4 : Nat
  r5 : Nat
  r6 : Nat
  r7 : Nat
  r8 : Nat
  r9 : Nat
  r10 : Nat
  r11 : Nat
  ro : Int
  r13 : Nat
def rv (q : RD) : List Value := [.int .i64 q.ra, .int .i64 q.rb, .float .f64 q.r2, .float .f64 q.r3, .float .f64 q.r4, .float .f64 q.r5, .float .f64 q.r6, .float .f64 q.r7, .float .f64 q.r8, .float .f64 q.r9, .float .f64 q.r10, .float .f64 q.r11, .int .i64 q.ro, .float .f64 q.r13]
def rok (q : RD) : Prop := okK .f64 q.r2 ∧ okK .f64 q.r3 ∧ okK .f64 q.r4 ∧ okK .f64 q.r5 ∧ okK .f64 q.r6 ∧ okK .f64 q.r7 ∧ okK .f64 q.r8 ∧ okK .f64 q.r9 ∧ okK .f64 q.r10 ∧ okK .f64 q.r11 ∧ okK .f64 q.r13
/-- rows that lie one behind the other -/
def Rws (w : World) (b off n : Nat) (Q : Nat → RD) : Prop := ∀ i, i < n → w.rangeAt b (off + i * 14) (rv (Q i))
theorem Rws.bel {w w' : World} {b off n : Nat} {Q : Nat → RD} (h : Rws w b off n Q) (g : Bel w w') : Rws w' b off n Q := fun i hi => rng_bel (h i hi) g
theorem Rws.lt {w : World} {b off n : Nat} {Q : Nat → RD} (h : Rws w b off n Q) (hn : 0 < n) : b < w.heap.size := World.block_lt_of_cell? w _ (h 0 hn 0 _ rfl)
/-- a slice of rows: empty, or they lie there -/
def RowsA (w : World) (sl : Option Addr) (n : Nat) (Q : Nat → RD) : Prop := n = 0 ∨ ∃ b off, sl = some ⟨b, off, none⟩ ∧ Rws w b off n Q
theorem RowsA.bel {w w' : World} {sl : Option Addr} {n : Nat} {Q : Nat → RD} (h : RowsA w sl n Q) (g : Bel w w') : RowsA w' sl n Q := by
  rcases h with h | ⟨b, off, e, h⟩
  · exact .inl h
  · exact .inr ⟨b, off, e, h.bel g⟩
def kpP (Q : Nat → RD) (n i : Nat) : Nat := if i < n ∧ wk (Q i).r11 = true then (Q i).r11 else 0
noncomputable def kpE (e : Int) (n : Nat) : Int := if e = 0 then (if 3 < n then 2 else 0) else e
noncomputable def kpV (e : Int) (l : List Value) : Value := if e = 0 then .agg l.toArray else .agg #[.int .u8 0, .int .u32 0, .int .u32 0, .int .u32 0, .int .u32 0, .float .f64 0, .float .f64 0, .float .f64 0, .float .f64 0, .float .f64 0, .float .f64 0, .float .f64 0, .float .f64 0, .bool false, .float .f64 0, .float .f64 0, .bool false, .float .f64 0, .float .f64 0, .float .f64 0, .float .f64 0, .float .f64 0]
theorem results_ct {P : Program} {fn : Func} {tmps : Array Value} {w : World} {c r : Nat} {ty : TypeId} {a : Addr} {v u : Value} (hres : fn.results = #[.cell c ty, .tmp r]) (hc : tmps.getD c undef = .pointer (some a)) (hl : (loadVar ty a).run P w = .ok v w) (hr : tmps.getD r undef = u) : (results fn tmps).run P w = .ok (.tuple #[v, u]) w := by
  unfold results
  rw [hres]
  have e : (#[ResultVar.cell c ty, ResultVar.tmp r]) = [ResultVar.cell c ty, ResultVar.tmp r].toArray := rfl
  rw [e]
  simp only [List.mapM_toArray, List.mapM_cons, List.mapM_nil, Sem.run_bind, Sem.run_map, Sem.run_pure, Result.andThen_ok, hc, hr, asAddr, hl]
  rfl
theorem bel_there {w w' : World} {b o n : Nat} (h : w.there b o n) (g : Bel w w') : w'.there b o n := fun j hj => by
  obtain ⟨h1, h2⟩ := h j hj
  obtain ⟨u, hu⟩ := Option.isSome_iff_exists.1 h1
  exact ⟨by rw [keep g hu]; rfl, by rw [g.2]; exact h2⟩
theorem there_new (w : World) (cs : List Value) (t : TypeId) : (w.alloc (.cells cs.toArray t)).there w.heap.size 0 cs.length := fun j hj => by
  refine ⟨?_, ?_⟩
  · rw [(rng_new w cs t) j _ (List.getElem?_eq_getElem hj)]; rfl
  · rw [Nat.zero_add]; exact fz_new j
theorem rng_upd {W : World} {b k : Nat} {cs : List Value} {v : Value} (h : W.rangeAt b 0 cs) (hk : k < cs.length) : (W.setCell ⟨b, k, none⟩ v).rangeAt b 0 (cs.set k v) := fun j u hj => by
  rw [Nat.zero_add]
  by_cases e : j = k
  · subst e
    rw [List.getElem?_set_self hk] at hj
    have h1 := h j _ (List.getElem?_eq_getElem hk)
    rw [Nat.zero_add] at h1
    rw [World.cell?_setCell_same _ _ _ h1, hj]
  · rw [List.getElem?_set_ne (by omega)] at hj
    have h1 := h j u hj
    rw [Nat.zero_add] at h1
    rw [World.cell?_setCell_other _ _ _ _ (by simp; first | done | omega)]
    exact h1
theorem there_set {W : World} {b o n : Nat} {a : Addr} {v : Value} (h : W.there b o n) : (W.setCell a v).there b o n := fun j hj => by
  obtain ⟨h1, h2⟩ := h j hj
  refine ⟨?_, by rw [World.frozen?_setCell]; exact h2⟩
  obtain ⟨u, hu⟩ := Option.isSome_iff_exists.1 h1
  by_cases e : a = ⟨b, o + j, none⟩
  · subst e; rw [World.cell?_setCell_same _ _ _ hu]; rfl
  · rw [World.cell?_setCell_other _ _ _ _ e, hu]; rfl
theorem rng_set_far {W : World} {b o : Nat} {cs : List Value} {a : Addr} {v : Value} (h : W.rangeAt b o cs) (hb : a.block ≠ b) : (W.setCell a v).rangeAt b o cs := fun j u hj => by
  rw [World.cell?_setCell_other _ _ _ _ (by intro e; subst e; exact hb rfl)]
  exact h j u hj
theorem kpP_lt {Q : Nat → RD} {k i : Nat} (h : i ≠ k) : kpP Q (k + 1) i = kpP Q k i := by
  unfold kpP
  by_cases g : i < k ∧ wk (Q i).r11 = true
  · rw [if_pos g, if_pos ⟨by omega, g.2⟩]
  · rw [if_neg g, if_neg (fun h' => g ⟨by omega, h'.2⟩)]
theorem kpP_yes {Q : Nat → RD} {k : Nat} (h : wk (Q k).r11 = true) : kpP Q (k + 1) k = (Q k).r11 := by unfold kpP; rw [if_pos ⟨by omega, h⟩]
theorem kpP_no {Q : Nat → RD} {k : Nat} (h : wk (Q k).r11 = false) : kpP Q (k + 1) k = 0 := by unfold kpP; rw [if_neg (by rw [h]; simp)]
theorem kpP_ge {Q : Nat → RD} {k i : Nat} (h : k ≤ i) : kpP Q k i = 0 := by unfold kpP; rw [if_neg (by omega)]
theorem bel_set1 {w0 w : World} {b o : Nat} {v : Value} (h : Bel w0 w) (hb : w0.heap.size ≤ b) : Bel w0 (w.setCell ⟨b, o, none⟩ v) := bl_set h hb
theorem size_set (w : World) (a : Addr) (v : Value) : (w.setCell a v).heap.size = w.heap.size := by simp
theorem size_setsJ (b : Nat) : ∀ (vs : List Value) (o : Nat) (w : World), (w.setCells b o vs).heap.size = w.heap.size
  | [], _, _ => rfl
  | v :: r, o, w => by rw [World.setCells, size_setsJ b r]; simp
theorem bel_setsJ {b : Nat} : ∀ (vs : List Value) (o : Nat) {W0 w : World}, Bel W0 w → W0.heap.size ≤ b → Bel W0 (w.setCells b o vs)
  | [], _, _, _, h, _ => h
  | v :: r, o, _, w, h, hb => by rw [World.setCells]; exact bel_setsJ r (o + 1) (bl_set h hb) hb

end Go.Proofs.Ytfjlonnmhioleaa
