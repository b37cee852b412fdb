/-
  What each function of package poly answers, and what the reference of its chapter answers: one contract a function, for every float: the answer stands in the relation of its formula to what was given; of the memory that was there nothing has turned.
-/
import Derived.Test.YtfohggiehbplkaaVec
import Derived.Test.YtfohggiehbplkaaWa
import Derived.Test.YtfohggiehbplkaaOnc2
import Derived.Below
import Derived.WalkKit
import Derived.WalkLawsBesides
import Derived.WalkSpells
import Derived.ProofKit
import Derived.OpenShut
import Derived.Deep.RegionHeld3
namespace Go.Proofs.Ytfohggiehbplkaa
open Go.ChangeShapes Go.WideShapes Go.ChangeAt Go.RowKit
set_option linter.unusedVariables false
set_option linter.unusedSimpArgs false


theorem fresh_frozen {W : World} {b i : Nat} (h : W.heap.size ≤ b) : W.frozen? ⟨b, i, none⟩ = false := by
  simp [World.frozen?, h]
theorem fz_new {W : World} {c : Array Value} {t : TypeId} (o : Nat) : (W.alloc (.cells c t)).frozen? ⟨W.heap.size, o, none⟩ = false := ((bl_alloc (bl_refl W) c t).2 _).trans (fresh_frozen (Nat.le_refl _))
theorem results_ct {P : Program} {fn : Func} {tmps : Array Value} {w : World} {c r : Nat} {ty : TypeId} {a : Addr} {v u : Value} (hres : fn.results = #[.cell c ty, .tmp r]) (hc : tmps.getD c undef = .pointer (some a)) (hl : (loadVar ty a).run P w = .ok v w) (hr : tmps.getD r undef = u) : (results fn tmps).run P w = .ok (.tuple #[v, u]) w := by
  unfold results
  rw [hres]
  have e : (#[ResultVar.cell c ty, ResultVar.tmp r]) = [ResultVar.cell c ty, ResultVar.tmp r].toArray := rfl
  rw [e]
  simp only [List.mapM_toArray, List.mapM_cons, List.mapM_nil, Sem.run_bind, Sem.run_map, Sem.run_pure, Result.andThen_ok, hc, hr, asAddr, hl]
  rfl
theorem bel_there {w w' : World} {b o n : Nat} (h : w.there b o n) (g : Bel w w') : w'.there b o n := fun j hj => by
  obtain ⟨h1, h2⟩ := h j hj
  obtain ⟨u, hu⟩ := Option.isSome_iff_exists.1 h1
  exact ⟨by rw [keep g hu]; rfl, by rw [g.2]; exact h2⟩
theorem there_new (w : World) (cs : List Value) (t : TypeId) : (w.alloc (.cells cs.toArray t)).there w.heap.size 0 cs.length := fun j hj => by
  refine ⟨?_, ?_⟩
  · rw [(rng_new w cs t) j _ (List.getElem?_eq_getElem hj)]; rfl
  · rw [Nat.zero_add]; exact fz_new j
theorem rng_upd {W : World} {b k : Nat} {cs : List Value} {v : Value} (h : W.rangeAt b 0 cs) (hk : k < cs.length) : (W.setCell ⟨b, k, none⟩ v).rangeAt b 0 (cs.set k v) := fun j u hj => by
  rw [Nat.zero_add]
  by_cases e : j = k
  · subst e
    rw [List.getElem?_set_self hk] at hj
    have h1 := h j _ (List.getElem?_eq_getElem hk)
    rw [Nat.zero_add] at h1
    rw [World.cell?_setCell_same _ _ _ h1, hj]
  · rw [List.getElem?_set_ne (by omega)] at hj
    have h1 := h j u hj
    rw [Nat.zero_add] at h1
    rw [World.cell?_setCell_other _ _ _ _ (by simp; first | done | omega)]
    exact h1
theorem there_set {W : World} {b o n : Nat} {a : Addr} {v : Value} (h : W.there b o n) : (W.setCell a v).there b o n := fun j hj => by
  obtain ⟨h1, h2⟩ := h j hj
  refine ⟨?_, by rw [World.frozen?_setCell]; exact h2⟩
  obtain ⟨u, hu⟩ := Option.isSome_iff_exists.1 h1
  by_cases e : a = ⟨b, o + j, none⟩
  · subst e; rw [World.cell?_setCell_same _ _ _ hu]; rfl
  · rw [World.cell?_setCell_other _ _ _ _ e, hu]; rfl
theorem rng_set_far {W : World} {b o : Nat} {cs : List Value} {a : Addr} {v : Value} (h : W.rangeAt b o cs) (hb : a.block ≠ b) : (W.setCell a v).rangeAt b o cs := fun j u hj => by
  rw [World.cell?_setCell_other _ _ _ _ (by intro e; subst e; exact hb rfl)]
  exact h j u hj
theorem bel_set1 {w0 w : World} {b o : Nat} {v : Value} (h : Bel w0 w) (hb : w0.heap.size ≤ b) : Bel w0 (w.setCell ⟨b, o, none⟩ v) := bl_set h hb
theorem size_set (w : World) (a : Addr) (v : Value) : (w.setCell a v).heap.size = w.heap.size := by simp
theorem size_setsJ (b : Nat) : ∀ (vs : List Value) (o : Nat) (w : World), (w.setCells b o vs).heap.size = w.heap.size
  | [], _, _ => rfl
  | v :: r, o, w => by rw [World.setCells, size_setsJ b r]; simp
theorem bel_setsJ {b : Nat} : ∀ (vs : List Value) (o : Nat) {W0 w : World}, Bel W0 w → W0.heap.size ≤ b → Bel W0 (w.setCells b o vs)
  | [], _, _, _, h, _ => h
  | v :: r, o, _, w, h, hb => by rw [World.setCells]; exact bel_setsJ r (o + 1) (bl_set h hb) hb

theorem at_world {P : Program} {C : Code} {Q : Exit → Act → World → Prop} {a : Act} {w : World} (I : World → Prop) (h : I w) (k : ∀ W, I W → C.wp P Q a W) : C.wp P Q a w := k w h
/-- the ten words of two stills as they lie, and that they may be written -/
def Two (W : World) (H : Nat) (a b : SD) (x y s x2 y2 s2 : Nat) : Prop := W.rangeAt H 0 [.float .f64 a.sm, .float .f64 a.si, .float .f64 x, .float .f64 y, .float .f64 s, .float .f64 b.sm, .float .f64 b.si, .float .f64 x2, .float .f64 y2, .float .f64 s2] ∧ W.there H 0 10
theorem Two.bel {W W' : World} {H : Nat} {a b : SD} {x y s x2 y2 s2 : Nat} (h : Two W H a b x y s x2 y2 s2) (g : Bel W W') : Two W' H a b x y s x2 y2 s2 := ⟨rng_bel h.1 g, bel_there h.2 g⟩
theorem Two.set2 {W : World} {H : Nat} {a b : SD} {x y s x2 y2 s2 r : Nat} (h : Two W H a b x y s x2 y2 s2) : Two (W.setCell ⟨H, 2, none⟩ (.float .f64 r)) H a b r y s x2 y2 s2 := ⟨rng_upd (k := 2) (v := .float .f64 r) h.1 (by simp), there_set h.2⟩
theorem Two.set3 {W : World} {H : Nat} {a b : SD} {x y s x2 y2 s2 r : Nat} (h : Two W H a b x y s x2 y2 s2) : Two (W.setCell ⟨H, 3, none⟩ (.float .f64 r)) H a b x r s x2 y2 s2 := ⟨rng_upd (k := 3) (v := .float .f64 r) h.1 (by simp), there_set h.2⟩
theorem Two.set4 {W : World} {H : Nat} {a b : SD} {x y s x2 y2 s2 r : Nat} (h : Two W H a b x y s x2 y2 s2) : Two (W.setCell ⟨H, 4, none⟩ (.float .f64 r)) H a b x y r x2 y2 s2 := ⟨rng_upd (k := 4) (v := .float .f64 r) h.1 (by simp), there_set h.2⟩
theorem Two.set7 {W : World} {H : Nat} {a b : SD} {x y s x2 y2 s2 r : Nat} (h : Two W H a b x y s x2 y2 s2) : Two (W.setCell ⟨H, 7, none⟩ (.float .f64 r)) H a b x y s r y2 s2 := ⟨rng_upd (k := 7) (v := .float .f64 r) h.1 (by simp), there_set h.2⟩
theorem Two.set8 {W : World} {H : Nat} {a b : SD} {x y s x2 y2 s2 r : Nat} (h : Two W H a b x y s x2 y2 s2) : Two (W.setCell ⟨H, 8, none⟩ (.float .f64 r)) H a b x y s x2 r s2 := ⟨rng_upd (k := 8) (v := .float .f64 r) h.1 (by simp), there_set h.2⟩
theorem Two.set9 {W : World} {H : Nat} {a b : SD} {x y s x2 y2 s2 r : Nat} (h : Two W H a b x y s x2 y2 s2) : Two (W.setCell ⟨H, 9, none⟩ (.float .f64 r)) H a b x y s x2 y2 r := ⟨rng_upd (k := 9) (v := .float .f64 r) h.1 (by simp), there_set h.2⟩

theorem results_c {P : Program} {fn : Func} {tmps : Array Value} {w : World} {c : Nat} {ty : TypeId} {a : Addr} {v : Value} (hres : fn.results = #[.cell c ty]) (hc : tmps.getD c undef = .pointer (some a)) (hl : (loadVar ty a).run P w = .ok v w) : (results fn tmps).run P w = .ok v w := by
  unfold results
  rw [hres]
  have e : (#[ResultVar.cell c ty]) = [ResultVar.cell c ty].toArray := rfl
  rw [e]
  simp only [List.mapM_toArray, List.mapM_cons, List.mapM_nil, Sem.run_bind, Sem.run_map, Sem.run_pure, Result.andThen_ok, hc, asAddr, hl]
  rfl
set_option maxRecDepth 100000 in
theorem grips_w (R : RD) (w : World) : Calls Try.prog 101 #[.agg #[.int .i64 R.ra, .int .i64 R.rb, .float .f64 R.r2, .float .f64 R.r3, .float .f64 R.r4, .float .f64 R.r5, .float .f64 R.r6, .float .f64 R.r7, .float .f64 R.r8, .float .f64 R.r9, .float .f64 R.r10, .float .f64 R.r11, .int .i64 R.ro, .float .f64 R.r13]] w fun e w' => e = .returned (.agg #[.float .f64 R.r2, .float .f64 R.r3, .float .f64 R.r6, .float .f64 R.r4, .float .f64 R.r5, .float .f64 R.r7]) ∧ Bel w w' := by
  have z0_0 : (w.alloc (.cells #[.int .i64 R.ra, .int .i64 R.rb, .float .f64 R.r2, .float .f64 R.r3, .float .f64 R.r4, .float .f64 R.r5, .float .f64 R.r6, .float .f64 R.r7, .float .f64 R.r8, .float .f64 R.r9, .float .f64 R.r10, .float .f64 R.r11, .int .i64 R.ro, .float .f64 R.r13] 43)).cell? ⟨w.heap.size, 0, none⟩ = some (.int .i64 R.ra) := by rw [World.cell?_alloc_new]; rfl
  replace z0_0 := up_alloc (o := .cells #[.float .f64 0, .float .f64 0, .float .f64 0, .float .f64 0, .float .f64 0, .float .f64 0] 135) z0_0
  have z0_1 : (w.alloc (.cells #[.int .i64 R.ra, .int .i64 R.rb, .float .f64 R.r2, .float .f64 R.r3, .float .f64 R.r4, .float .f64 R.r5, .float .f64 R.r6, .float .f64 R.r7, .float .f64 R.r8, .float .f64 R.r9, .float .f64 R.r10, .float .f64 R.r11, .int .i64 R.ro, .float .f64 R.r13] 43)).cell? ⟨w.heap.size, 1, none⟩ = some (.int .i64 R.rb) := by rw [World.cell?_alloc_new]; rfl
  replace z0_1 := up_alloc (o := .cells #[.float .f64 0, .float .f64 0, .float .f64 0, .float .f64 0, .float .f64 0, .float .f64 0] 135) z0_1
  have z0_2 : (w.alloc (.cells #[.int .i64 R.ra, .int .i64 R.rb, .float .f64 R.r2, .float .f64 R.r3, .float .f64 R.r4, .float .f64 R.r5, .float .f64 R.r6, .float .f64 R.r7, .float .f64 R.r8, .float .f64 R.r9, .float .f64 R.r10, .float .f64 R.r11, .int .i64 R.ro, .float .f64 R.r13] 43)).cell? ⟨w.heap.size, 2, none⟩ = some (.float .f64 R.r2) := by rw [World.cell?_alloc_new]; rfl
  replace z0_2 := up_alloc (o := .cells #[.float .f64 0, .float .f64 0, .float .f64 0, .float .f64 0, .float .f64 0, .float .f64 0] 135) z0_2
  have z0_3 : (w.alloc (.cells #[.int .i64 R.ra, .int .i64 R.rb, .float .f64 R.r2, .float .f64 R.r3, .float .f64 R.r4, .float .f64 R.r5, .float .f64 R.r6, .float .f64 R.r7, .float .f64 R.r8, .float .f64 R.r9, .float .f64 R.r10, .float .f64 R.r11, .int .i64 R.ro, .float .f64 R.r13] 43)).cell? ⟨w.heap.size, 3, none⟩ = some (.float .f64 R.r3) := by rw [World.cell?_alloc_new]; rfl
  replace z0_3 := up_alloc (o := .cells #[.float .f64 0, .float .f64 0, .float .f64 0, .float .f64 0, .float .f64 0, .float .f64 0] 135) z0_3
  have z0_4 : (w.alloc (.cells #[.int .i64 R.ra, .int .i64 R.rb, .float .f64 R.r2, .float .f64 R.r3, .float .f64 R.r4, .float .f64 R.r5, .float .f64 R.r6, .float .f64 R.r7, .float .f64 R.r8, .float .f64 R.r9, .float .f64 R.r10, .float .f64 R.r11, .int .i64 R.ro, .float .f64 R.r13] 43)).cell? ⟨w.heap.size, 4, none⟩ = some (.float .f64 R.r4) := by rw [World.cell?_alloc_new]; rfl
  replace z0_4 := up_alloc (o := .cells #[.float .f64 0, .float .f64 0, .float .f64 0, .float .f64 0, .float .f64 0, .float .f64 0] 135) z0_4
  have z0_5 : (w.alloc (.cells #[.int .i64 R.ra, .int .i64 R.rb, .float .f64 R.r2, .float .f64 R.r3, .float .f64 R.r4, .float .f64 R.r5, .float .f64 R.r6, .float .f64 R.r7, .float .f64 R.r8, .float .f64 R.r9, .float .f64 R.r10, .float .f64 R.r11, .int .i64 R.ro, .float .f64 R.r13] 43)).cell? ⟨w.heap.size, 5, none⟩ = some (.float .f64 R.r5) := by rw [World.cell?_alloc_new]; rfl
  replace z0_5 := up_alloc (o := .cells #[.float .f64 0, .float .f64 0, .float .f64 0, .float .f64 0, .float .f64 0, .float .f64 0] 135) z0_5
  have z0_6 : (w.alloc (.cells #[.int .i64 R.ra, .int .i64 R.rb, .float .f64 R.r2, .float .f64 R.r3, .float .f64 R.r4, .float .f64 R.r5, .float .f64 R.r6, .float .f64 R.r7, .float .f64 R.r8, .float .f64 R.r9, .float .f64 R.r10, .float .f64 R.r11, .int .i64 R.ro, .float .f64 R.r13] 43)).cell? ⟨w.heap.size, 6, none⟩ = some (.float .f64 R.r6) := by rw [World.cell?_alloc_new]; rfl
  replace z0_6 := up_alloc (o := .cells #[.float .f64 0, .float .f64 0, .float .f64 0, .float .f64 0, .float .f64 0, .float .f64 0] 135) z0_6
  have z0_7 : (w.alloc (.cells #[.int .i64 R.ra, .int .i64 R.rb, .float .f64 R.r2, .float .f64 R.r3, .float .f64 R.r4, .float .f64 R.r5, .float .f64 R.r6, .float .f64 R.r7, .float .f64 R.r8, .float .f64 R.r9, .float .f64 R.r10, .float .f64 R.r11, .int .i64 R.ro, .float .f64 R.r13] 43)).cell? ⟨w.heap.size, 7, none⟩ = some (.float .f64 R.r7) := by rw [World.cell?_alloc_new]; rfl
  replace z0_7 := up_alloc (o := .cells #[.float .f64 0, .float .f64 0, .float .f64 0, .float .f64 0, .float .f64 0, .float .f64 0] 135) z0_7
  have z0_8 : (w.alloc (.cells #[.int .i64 R.ra, .int .i64 R.rb, .float .f64 R.r2, .float .f64 R.r3, .float .f64 R.r4, .float .f64 R.r5, .float .f64 R.r6, .float .f64 R.r7, .float .f64 R.r8, .float .f64 R.r9, .float .f64 R.r10, .float .f64 R.r11, .int .i64 R.ro, .float .f64 R.r13] 43)).cell? ⟨w.heap.size, 8, none⟩ = some (.float .f64 R.r8) := by rw [World.cell?_alloc_new]; rfl
  replace z0_8 := up_alloc (o := .cells #[.float .f64 0, .float .f64 0, .float .f64 0, .float .f64 0, .float .f64 0, .float .f64 0] 135) z0_8
  have z0_9 : (w.alloc (.cells #[.int .i64 R.ra, .int .i64 R.rb, .float .f64 R.r2, .float .f64 R.r3, .float .f64 R.r4, .float .f64 R.r5, .float .f64 R.r6, .float .f64 R.r7, .float .f64 R.r8, .float .f64 R.r9, .float .f64 R.r10, .float .f64 R.r11, .int .i64 R.ro, .float .f64 R.r13] 43)).cell? ⟨w.heap.size, 9, none⟩ = some (.float .f64 R.r9) := by rw [World.cell?_alloc_new]; rfl
  replace z0_9 := up_alloc (o := .cells #[.float .f64 0, .float .f64 0, .float .f64 0, .float .f64 0, .float .f64 0, .float .f64 0] 135) z0_9
  have z0_10 : (w.alloc (.cells #[.int .i64 R.ra, .int .i64 R.rb, .float .f64 R.r2, .float .f64 R.r3, .float .f64 R.r4, .float .f64 R.r5, .float .f64 R.r6, .float .f64 R.r7, .float .f64 R.r8, .float .f64 R.r9, .float .f64 R.r10, .float .f64 R.r11, .int .i64 R.ro, .float .f64 R.r13] 43)).cell? ⟨w.heap.size, 10, none⟩ = some (.float .f64 R.r10) := by rw [World.cell?_alloc_new]; rfl
  replace z0_10 := up_alloc (o := .cells #[.float .f64 0, .float .f64 0, .float .f64 0, .float .f64 0, .float .f64 0, .float .f64 0] 135) z0_10
  have z0_11 : (w.alloc (.cells #[.int .i64 R.ra, .int .i64 R.rb, .float .f64 R.r2, .float .f64 R.r3, .float .f64 R.r4, .float .f64 R.r5, .float .f64 R.r6, .float .f64 R.r7, .float .f64 R.r8, .float .f64 R.r9, .float .f64 R.r10, .float .f64 R.r11, .int .i64 R.ro, .float .f64 R.r13] 43)).cell? ⟨w.heap.size, 11, none⟩ = some (.float .f64 R.r11) := by rw [World.cell?_alloc_new]; rfl
  replace z0_11 := up_alloc (o := .cells #[.float .f64 0, .float .f64 0, .float .f64 0, .float .f64 0, .float .f64 0, .float .f64 0] 135) z0_11
  have z0_12 : (w.alloc (.cells #[.int .i64 R.ra, .int .i64 R.rb, .float .f64 R.r2, .float .f64 R.r3, .float .f64 R.r4, .float .f64 R.r5, .float .f64 R.r6, .float .f64 R.r7, .float .f64 R.r8, .float .f64 R.r9, .float .f64 R.r10, .float .f64 R.r11, .int .i64 R.ro, .float .f64 R.r13] 43)).cell? ⟨w.heap.size, 12, none⟩ = some (.int .i64 R.ro) := by rw [World.cell?_alloc_new]; rfl
  replace z0_12 := up_alloc (o := .cells #[.float .f64 0, .float .f64 0, .float .f64 0, .float .f64 0, .float .f64 0, .float .f64 0] 135) z0_12
  have z0_13 : (w.alloc (.cells #[.int .i64 R.ra, .int .i64 R.rb, .float .f64 R.r2, .float .f64 R.r3, .float .f64 R.r4, .float .f64 R.r5, .float .f64 R.r6, .float .f64 R.r7, .float .f64 R.r8, .float .f64 R.r9, .float .f64 R.r10, .float .f64 R.r11, .int .i64 R.ro, .float .f64 R.r13] 43)).cell? ⟨w.heap.size, 13, none⟩ = some (.float .f64 R.r13) := by rw [World.cell?_alloc_new]; rfl
  replace z0_13 := up_alloc (o := .cells #[.float .f64 0, .float .f64 0, .float .f64 0, .float .f64 0, .float .f64 0, .float .f64 0] 135) z0_13
  have z1_0 : ((w.alloc (.cells #[.int .i64 R.ra, .int .i64 R.rb, .float .f64 R.r2, .float .f64 R.r3, .float .f64 R.r4, .float .f64 R.r5, .float .f64 R.r6, .float .f64 R.r7, .float .f64 R.r8, .float .f64 R.r9, .float .f64 R.r10, .float .f64 R.r11, .int .i64 R.ro, .float .f64 R.r13] 43)).alloc (.cells #[.float .f64 0, .float .f64 0, .float .f64 0, .float .f64 0, .float .f64 0, .float .f64 0] 135)).cell? ⟨w.heap.size + 1, 0, none⟩ = some (.float .f64 0) := by rw [← (show (w.alloc (.cells #[.int .i64 R.ra, .int .i64 R.rb, .float .f64 R.r2, .float .f64 R.r3, .float .f64 R.r4, .float .f64 R.r5, .float .f64 R.r6, .float .f64 R.r7, .float .f64 R.r8, .float .f64 R.r9, .float .f64 R.r10, .float .f64 R.r11, .int .i64 R.ro, .float .f64 R.r13] 43)).heap.size = w.heap.size + 1 by simp only [World.size_alloc]), World.cell?_alloc_new]; rfl
  have z1_1 : ((w.alloc (.cells #[.int .i64 R.ra, .int .i64 R.rb, .float .f64 R.r2, .float .f64 R.r3, .float .f64 R.r4, .float .f64 R.r5, .float .f64 R.r6, .float .f64 R.r7, .float .f64 R.r8, .float .f64 R.r9, .float .f64 R.r10, .float .f64 R.r11, .int .i64 R.ro, .float .f64 R.r13] 43)).alloc (.cells #[.float .f64 0, .float .f64 0, .float .f64 0, .float .f64 0, .float .f64 0, .float .f64 0] 135)).cell? ⟨w.heap.size + 1, 1, none⟩ = some (.float .f64 0) := by rw [← (show (w.alloc (.cells #[.int .i64 R.ra, .int .i64 R.rb, .float .f64 R.r2, .float .f64 R.r3, .float .f64 R.r4, .float .f64 R.r5, .float .f64 R.r6, .float .f64 R.r7, .float .f64 R.r8, .float .f64 R.r9, .float .f64 R.r10, .float .f64 R.r11, .int .i64 R.ro, .float .f64 R.r13] 43)).heap.size = w.heap.size + 1 by simp only [World.size_alloc]), World.cell?_alloc_new]; rfl
  have z1_2 : ((w.alloc (.cells #[.int .i64 R.ra, .int .i64 R.rb, .float .f64 R.r2, .float .f64 R.r3, .float .f64 R.r4, .float .f64 R.r5, .float .f64 R.r6, .float .f64 R.r7, .float .f64 R.r8, .float .f64 R.r9, .float .f64 R.r10, .float .f64 R.r11, .int .i64 R.ro, .float .f64 R.r13] 43)).alloc (.cells #[.float .f64 0, .float .f64 0, .float .f64 0, .float .f64 0, .float .f64 0, .float .f64 0] 135)).cell? ⟨w.heap.size + 1, 2, none⟩ = some (.float .f64 0) := by rw [← (show (w.alloc (.cells #[.int .i64 R.ra, .int .i64 R.rb, .float .f64 R.r2, .float .f64 R.r3, .float .f64 R.r4, .float .f64 R.r5, .float .f64 R.r6, .float .f64 R.r7, .float .f64 R.r8, .float .f64 R.r9, .float .f64 R.r10, .float .f64 R.r11, .int .i64 R.ro, .float .f64 R.r13] 43)).heap.size = w.heap.size + 1 by simp only [World.size_alloc]), World.cell?_alloc_new]; rfl
  have z1_3 : ((w.alloc (.cells #[.int .i64 R.ra, .int .i64 R.rb, .float .f64 R.r2, .float .f64 R.r3, .float .f64 R.r4, .float .f64 R.r5, .float .f64 R.r6, .float .f64 R.r7, .float .f64 R.r8, .float .f64 R.r9, .float .f64 R.r10, .float .f64 R.r11, .int .i64 R.ro, .float .f64 R.r13] 43)).alloc (.cells #[.float .f64 0, .float .f64 0, .float .f64 0, .float .f64 0, .float .f64 0, .float .f64 0] 135)).cell? ⟨w.heap.size + 1, 3, none⟩ = some (.float .f64 0) := by rw [← (show (w.alloc (.cells #[.int .i64 R.ra, .int .i64 R.rb, .float .f64 R.r2, .float .f64 R.r3, .float .f64 R.r4, .float .f64 R.r5, .float .f64 R.r6, .float .f64 R.r7, .float .f64 R.r8, .float .f64 R.r9, .float .f64 R.r10, .float .f64 R.r11, .int .i64 R.ro, .float .f64 R.r13] 43)).heap.size = w.heap.size + 1 by simp only [World.size_alloc]), World.cell?_alloc_new]; rfl
  have z1_4 : ((w.alloc (.cells #[.int .i64 R.ra, .int .i64 R.rb, .float .f64 R.r2, .float .f64 R.r3, .float .f64 R.r4, .float .f64 R.r5, .float .f64 R.r6, .float .f64 R.r7, .float .f64 R.r8, .float .f64 R.r9, .float .f64 R.r10, .float .f64 R.r11, .int .i64 R.ro, .float .f64 R.r13] 43)).alloc (.cells #[.float .f64 0, .float .f64 0, .float .f64 0, .float .f64 0, .float .f64 0, .float .f64 0] 135)).cell? ⟨w.heap.size + 1, 4, none⟩ = some (.float .f64 0) := by rw [← (show (w.alloc (.cells #[.int .i64 R.ra, .int .i64 R.rb, .float .f64 R.r2, .float .f64 R.r3, .float .f64 R.r4, .float .f64 R.r5, .float .f64 R.r6, .float .f64 R.r7, .float .f64 R.r8, .float .f64 R.r9, .float .f64 R.r10, .float .f64 R.r11, .int .i64 R.ro, .float .f64 R.r13] 43)).heap.size = w.heap.size + 1 by simp only [World.size_alloc]), World.cell?_alloc_new]; rfl
  have z1_5 : ((w.alloc (.cells #[.int .i64 R.ra, .int .i64 R.rb, .float .f64 R.r2, .float .f64 R.r3, .float .f64 R.r4, .float .f64 R.r5, .float .f64 R.r6, .float .f64 R.r7, .float .f64 R.r8, .float .f64 R.r9, .float .f64 R.r10, .float .f64 R.r11, .int .i64 R.ro, .float .f64 R.r13] 43)).alloc (.cells #[.float .f64 0, .float .f64 0, .float .f64 0, .float .f64 0, .float .f64 0, .float .f64 0] 135)).cell? ⟨w.heap.size + 1, 5, none⟩ = some (.float .f64 0) := by rw [← (show (w.alloc (.cells #[.int .i64 R.ra, .int .i64 R.rb, .float .f64 R.r2, .float .f64 R.r3, .float .f64 R.r4, .float .f64 R.r5, .float .f64 R.r6, .float .f64 R.r7, .float .f64 R.r8, .float .f64 R.r9, .float .f64 R.r10, .float .f64 R.r11, .int .i64 R.ro, .float .f64 R.r13] 43)).heap.size = w.heap.size + 1 by simp only [World.size_alloc]), World.cell?_alloc_new]; rfl
  have B0 : Bel w ((w.alloc (.cells #[.int .i64 R.ra, .int .i64 R.rb, .float .f64 R.r2, .float .f64 R.r3, .float .f64 R.r4, .float .f64 R.r5, .float .f64 R.r6, .float .f64 R.r7, .float .f64 R.r8, .float .f64 R.r9, .float .f64 R.r10, .float .f64 R.r11, .int .i64 R.ro, .float .f64 R.r13] 43)).alloc (.cells #[.float .f64 0, .float .f64 0, .float .f64 0, .float .f64 0, .float .f64 0, .float .f64 0] 135)) := bl_alloc (bl_alloc (bl_refl w) _ _) _ _
  go_enter Try.func101, Try.ntmps101
  go_wp2
  refine bodyPost_ret (v := .agg #[.float .f64 R.r2, .float .f64 R.r3, .float .f64 R.r6, .float .f64 R.r4, .float .f64 R.r5, .float .f64 R.r7]) (by simp [results, Try.results101, go_sem] <;> exact ⟨rfl, rfl⟩) rfl ⟨rfl, ?_⟩
  repeat (first | exact bl_refl _ | assumption | apply bl_drewN | apply bl_drew | apply bl_alloc | refine bl_set ?_ (by simp <;> omega) | refine bl_trans ?_ (by assumption))

def Rd (w W : World) (G : Nat) (a b : SD) (x y s x2 y2 s2 gx gy gg : Nat) : Prop := Bel w W ∧ Two W (w.heap.size) a b x y s x2 y2 s2 ∧ W.rangeAt G 0 [.float .f64 gx, .float .f64 gy, .float .f64 gg] ∧ W.there (w.heap.size + 1 + 1) 0 10 ∧ w.heap.size + 1 + 1 < W.heap.size ∧ G < W.heap.size
theorem rd_start {w wr cur : World} {t : TypeId} {a b : SD} {x y s x2 y2 s2 gx gy gg : Nat} (hB : Bel w wr) (hT : Two wr (w.heap.size) a b x y s x2 y2 s2) (hU : wr.there (w.heap.size + 1 + 1) 0 10) (hz : w.heap.size + 1 + 1 < wr.heap.size) (g : Bel (wr.alloc (.cells #[.float .f64 gx, .float .f64 gy, .float .f64 gg] t)) cur) : Rd w cur wr.heap.size a b x y s x2 y2 s2 gx gy gg := by
  have g1 : Bel wr cur := bl_trans (bl_alloc (bl_refl _) _ _) g
  have g2 := g.size
  rw [World.size_alloc] at g2
  exact ⟨bl_trans hB g1, hT.bel g1, rng_bel (rng_new wr [.float .f64 gx, .float .f64 gy, .float .f64 gg] t) g, bel_there hU g1, by omega, by omega⟩
theorem Rd.bel {w W W' : World} {G : Nat} {a b : SD} {x y s x2 y2 s2 gx gy gg : Nat} (h : Rd w W G a b x y s x2 y2 s2 gx gy gg) (g : Bel W W') : Rd w W' G a b x y s x2 y2 s2 gx gy gg := by
  obtain ⟨h1, h2, h3, h4, h5, h6⟩ := h
  have z := g.size
  exact ⟨bl_trans h1 g, h2.bel g, rng_bel h3 g, bel_there h4 g, by omega, by omega⟩
theorem Rd.put2 {w W : World} {G : Nat} {a b : SD} {x y s x2 y2 s2 gx gy gg r : Nat} (h : Rd w W G a b x y s x2 y2 s2 gx gy gg) (hG : w.heap.size + 1 + 1 < G) : Rd w (put1 (w.heap.size) 2 (.float .f64 r) W) G a b r y s x2 y2 s2 gx gy gg := by
  obtain ⟨h1, h2, h3, h4, h5, h6⟩ := h
  exact ⟨bl_set h1 (Nat.le_refl _), h2.set2, rng_set_far h3 (by simp only; omega), there_set h4, by simp only [put1, size_set]; exact h5, by simp only [put1, size_set]; exact h6⟩
theorem Rd.put3 {w W : World} {G : Nat} {a b : SD} {x y s x2 y2 s2 gx gy gg r : Nat} (h : Rd w W G a b x y s x2 y2 s2 gx gy gg) (hG : w.heap.size + 1 + 1 < G) : Rd w (put1 (w.heap.size) 3 (.float .f64 r) W) G a b x r s x2 y2 s2 gx gy gg := by
  obtain ⟨h1, h2, h3, h4, h5, h6⟩ := h
  exact ⟨bl_set h1 (Nat.le_refl _), h2.set3, rng_set_far h3 (by simp only; omega), there_set h4, by simp only [put1, size_set]; exact h5, by simp only [put1, size_set]; exact h6⟩
theorem Rd.put4 {w W : World} {G : Nat} {a b : SD} {x y s x2 y2 s2 gx gy gg r : Nat} (h : Rd w W G a b x y s x2 y2 s2 gx gy gg) (hG : w.heap.size + 1 + 1 < G) : Rd w (put1 (w.heap.size) 4 (.float .f64 r) W) G a b x y r x2 y2 s2 gx gy gg := by
  obtain ⟨h1, h2, h3, h4, h5, h6⟩ := h
  exact ⟨bl_set h1 (Nat.le_refl _), h2.set4, rng_set_far h3 (by simp only; omega), there_set h4, by simp only [put1, size_set]; exact h5, by simp only [put1, size_set]; exact h6⟩
theorem Rd.put7 {w W : World} {G : Nat} {a b : SD} {x y s x2 y2 s2 gx gy gg r : Nat} (h : Rd w W G a b x y s x2 y2 s2 gx gy gg) (hG : w.heap.size + 1 + 1 < G) : Rd w (put1 (w.heap.size) 7 (.float .f64 r) W) G a b x y s r y2 s2 gx gy gg := by
  obtain ⟨h1, h2, h3, h4, h5, h6⟩ := h
  exact ⟨bl_set h1 (Nat.le_refl _), h2.set7, rng_set_far h3 (by simp only; omega), there_set h4, by simp only [put1, size_set]; exact h5, by simp only [put1, size_set]; exact h6⟩
theorem Rd.put8 {w W : World} {G : Nat} {a b : SD} {x y s x2 y2 s2 gx gy gg r : Nat} (h : Rd w W G a b x y s x2 y2 s2 gx gy gg) (hG : w.heap.size + 1 + 1 < G) : Rd w (put1 (w.heap.size) 8 (.float .f64 r) W) G a b x y s x2 r s2 gx gy gg := by
  obtain ⟨h1, h2, h3, h4, h5, h6⟩ := h
  exact ⟨bl_set h1 (Nat.le_refl _), h2.set8, rng_set_far h3 (by simp only; omega), there_set h4, by simp only [put1, size_set]; exact h5, by simp only [put1, size_set]; exact h6⟩
theorem Rd.put9 {w W : World} {G : Nat} {a b : SD} {x y s x2 y2 s2 gx gy gg r : Nat} (h : Rd w W G a b x y s x2 y2 s2 gx gy gg) (hG : w.heap.size + 1 + 1 < G) : Rd w (put1 (w.heap.size) 9 (.float .f64 r) W) G a b x y s x2 y2 r gx gy gg := by
  obtain ⟨h1, h2, h3, h4, h5, h6⟩ := h
  exact ⟨bl_set h1 (Nat.le_refl _), h2.set9, rng_set_far h3 (by simp only; omega), there_set h4, by simp only [put1, size_set]; exact h5, by simp only [put1, size_set]; exact h6⟩

/-- what holds at the loop's head: k of the two stills are pushed -/
def Li (w W : World) (R : RD) (a b : SD) (P k x y s x2 y2 s2 : Nat) : Prop := Bel w W ∧ Two W (w.heap.size) a b x y s x2 y2 s2 ∧ W.there (w.heap.size + 1 + 1) 0 10 ∧ w.heap.size + 1 + 1 < W.heap.size ∧
  isF x (if k = 0 then bitsK a.sx else puX a.sm a.sx R.r2 P) ∧ isF y (if k = 0 then bitsK a.sy else puX a.sm a.sy R.r3 P) ∧ isF s (if k = 0 then bitsK a.ss else puT a.si a.ss R.r6 P) ∧
  isF x2 (if k ≤ 1 then bitsK b.sx else puX b.sm b.sx R.r4 P) ∧ isF y2 (if k ≤ 1 then bitsK b.sy else puX b.sm b.sy R.r5 P) ∧ isF s2 (if k ≤ 1 then bitsK b.ss else puT b.si b.ss R.r7 P)
theorem pu_no {m x g P r : Nat} (h : ltK .f64 0 m = false) (k : isF r (bitsK x)) : isF r (puX m x g P) ∧ isF r (puT m x g P) := by unfold puX puT; rw [h]; exact ⟨k, k⟩
theorem puX_yes {m x g P r : Nat} (h : ltK .f64 0 m = true) (k : isF r (oF .add (bitsK x) (oF .mul (oF .mul (bitsK m) P) (bitsK g)))) : isF r (puX m x g P) := by unfold puX; rw [h]; exact k
theorem puT_yes {m x g P r : Nat} (h : ltK .f64 0 m = true) (k : isF r (oF .add (bitsK x) (oF .mul (bitsK m) (oF .mul P (bitsK g))))) : isF r (puT m x g P) := by unfold puT; rw [h]; exact k

set_option maxRecDepth 100000 in
set_option maxHeartbeats 8000000 in
theorem pushed_w (R : RD) (a b : SD) {p P : Nat} (w : World) (oR : rok R) (oa : sok a) (ob : sok b) (hP : isF p P) : Calls Try.prog 61 #[.agg #[.float .f64 a.sm, .float .f64 a.si, .float .f64 a.sx, .float .f64 a.sy, .float .f64 a.ss, .float .f64 b.sm, .float .f64 b.si, .float .f64 b.sx, .float .f64 b.sy, .float .f64 b.ss], .agg #[.int .i64 R.ra, .int .i64 R.rb, .float .f64 R.r2, .float .f64 R.r3, .float .f64 R.r4, .float .f64 R.r5, .float .f64 R.r6, .float .f64 R.r7, .float .f64 R.r8, .float .f64 R.r9, .float .f64 R.r10, .float .f64 R.r11, .int .i64 R.ro, .float .f64 R.r13], .float .f64 p] w fun e w' => ∃ x y s x2 y2 s2, isF x (puX a.sm a.sx R.r2 P) ∧ isF y (puX a.sm a.sy R.r3 P) ∧ isF s (puT a.si a.ss R.r6 P) ∧ isF x2 (puX b.sm b.sx R.r4 P) ∧ isF y2 (puX b.sm b.sy R.r5 P) ∧ isF s2 (puT b.si b.ss R.r7 P) ∧ e = .returned (.agg #[.float .f64 a.sm, .float .f64 a.si, .float .f64 x, .float .f64 y, .float .f64 s, .float .f64 b.sm, .float .f64 b.si, .float .f64 x2, .float .f64 y2, .float .f64 s2]) ∧ Bel w w' := by
  obtain ⟨o2, o3, o4, o5, o6, o7, o8, o9, o10, o11, o13⟩ := oR
  obtain ⟨oam, oai, oax, oay, oas⟩ := oa
  obtain ⟨obm, obi, obx, oby, obs⟩ := ob
  have c1 := cmp_gt .f64
  have q1 := run_mul Try.prog
  have hR : (((w.alloc (.cells #[.float .f64 a.sm, .float .f64 a.si, .float .f64 a.sx, .float .f64 a.sy, .float .f64 a.ss, .float .f64 b.sm, .float .f64 b.si, .float .f64 b.sx, .float .f64 b.sy, .float .f64 b.ss] 98)).alloc (.cells #[.int .i64 R.ra, .int .i64 R.rb, .float .f64 R.r2, .float .f64 R.r3, .float .f64 R.r4, .float .f64 R.r5, .float .f64 R.r6, .float .f64 R.r7, .float .f64 R.r8, .float .f64 R.r9, .float .f64 R.r10, .float .f64 R.r11, .int .i64 R.ro, .float .f64 R.r13] 43)).alloc (.cells #[.float .f64 0, .float .f64 0, .float .f64 0, .float .f64 0, .float .f64 0, .float .f64 0, .float .f64 0, .float .f64 0, .float .f64 0, .float .f64 0] 98)).rangeAt (w.heap.size + 1) 0 [.int .i64 R.ra, .int .i64 R.rb, .float .f64 R.r2, .float .f64 R.r3, .float .f64 R.r4, .float .f64 R.r5, .float .f64 R.r6, .float .f64 R.r7, .float .f64 R.r8, .float .f64 R.r9, .float .f64 R.r10, .float .f64 R.r11, .int .i64 R.ro, .float .f64 R.r13] := by
    have h := rng_new (w.alloc (.cells #[.float .f64 a.sm, .float .f64 a.si, .float .f64 a.sx, .float .f64 a.sy, .float .f64 a.ss, .float .f64 b.sm, .float .f64 b.si, .float .f64 b.sx, .float .f64 b.sy, .float .f64 b.ss] 98)) [.int .i64 R.ra, .int .i64 R.rb, .float .f64 R.r2, .float .f64 R.r3, .float .f64 R.r4, .float .f64 R.r5, .float .f64 R.r6, .float .f64 R.r7, .float .f64 R.r8, .float .f64 R.r9, .float .f64 R.r10, .float .f64 R.r11, .int .i64 R.ro, .float .f64 R.r13] 43
    rw [World.size_alloc] at h
    exact World.rangeAt_alloc h _
  have hT : Two (((w.alloc (.cells #[.float .f64 a.sm, .float .f64 a.si, .float .f64 a.sx, .float .f64 a.sy, .float .f64 a.ss, .float .f64 b.sm, .float .f64 b.si, .float .f64 b.sx, .float .f64 b.sy, .float .f64 b.ss] 98)).alloc (.cells #[.int .i64 R.ra, .int .i64 R.rb, .float .f64 R.r2, .float .f64 R.r3, .float .f64 R.r4, .float .f64 R.r5, .float .f64 R.r6, .float .f64 R.r7, .float .f64 R.r8, .float .f64 R.r9, .float .f64 R.r10, .float .f64 R.r11, .int .i64 R.ro, .float .f64 R.r13] 43)).alloc (.cells #[.float .f64 0, .float .f64 0, .float .f64 0, .float .f64 0, .float .f64 0, .float .f64 0, .float .f64 0, .float .f64 0, .float .f64 0, .float .f64 0] 98)) (w.heap.size) a b a.sx a.sy a.ss b.sx b.sy b.ss := ⟨World.rangeAt_alloc (World.rangeAt_alloc (rng_new w [.float .f64 a.sm, .float .f64 a.si, .float .f64 a.sx, .float .f64 a.sy, .float .f64 a.ss, .float .f64 b.sm, .float .f64 b.si, .float .f64 b.sx, .float .f64 b.sy, .float .f64 b.ss] 98) _) _, World.there_alloc (World.there_alloc (there_new w [.float .f64 a.sm, .float .f64 a.si, .float .f64 a.sx, .float .f64 a.sy, .float .f64 a.ss, .float .f64 b.sm, .float .f64 b.si, .float .f64 b.sx, .float .f64 b.sy, .float .f64 b.ss] 98) _) _⟩
  have hU : (((w.alloc (.cells #[.float .f64 a.sm, .float .f64 a.si, .float .f64 a.sx, .float .f64 a.sy, .float .f64 a.ss, .float .f64 b.sm, .float .f64 b.si, .float .f64 b.sx, .float .f64 b.sy, .float .f64 b.ss] 98)).alloc (.cells #[.int .i64 R.ra, .int .i64 R.rb, .float .f64 R.r2, .float .f64 R.r3, .float .f64 R.r4, .float .f64 R.r5, .float .f64 R.r6, .float .f64 R.r7, .float .f64 R.r8, .float .f64 R.r9, .float .f64 R.r10, .float .f64 R.r11, .int .i64 R.ro, .float .f64 R.r13] 43)).alloc (.cells #[.float .f64 0, .float .f64 0, .float .f64 0, .float .f64 0, .float .f64 0, .float .f64 0, .float .f64 0, .float .f64 0, .float .f64 0, .float .f64 0] 98)).there (w.heap.size + 1 + 1) 0 10 := by
    have h := there_new ((w.alloc (.cells #[.float .f64 a.sm, .float .f64 a.si, .float .f64 a.sx, .float .f64 a.sy, .float .f64 a.ss, .float .f64 b.sm, .float .f64 b.si, .float .f64 b.sx, .float .f64 b.sy, .float .f64 b.ss] 98)).alloc (.cells #[.int .i64 R.ra, .int .i64 R.rb, .float .f64 R.r2, .float .f64 R.r3, .float .f64 R.r4, .float .f64 R.r5, .float .f64 R.r6, .float .f64 R.r7, .float .f64 R.r8, .float .f64 R.r9, .float .f64 R.r10, .float .f64 R.r11, .int .i64 R.ro, .float .f64 R.r13] 43)) [.float .f64 0, .float .f64 0, .float .f64 0, .float .f64 0, .float .f64 0, .float .f64 0, .float .f64 0, .float .f64 0, .float .f64 0, .float .f64 0] 98
    rw [World.size_alloc, World.size_alloc] at h
    exact h
  have B0 : Bel w (((w.alloc (.cells #[.float .f64 a.sm, .float .f64 a.si, .float .f64 a.sx, .float .f64 a.sy, .float .f64 a.ss, .float .f64 b.sm, .float .f64 b.si, .float .f64 b.sx, .float .f64 b.sy, .float .f64 b.ss] 98)).alloc (.cells #[.int .i64 R.ra, .int .i64 R.rb, .float .f64 R.r2, .float .f64 R.r3, .float .f64 R.r4, .float .f64 R.r5, .float .f64 R.r6, .float .f64 R.r7, .float .f64 R.r8, .float .f64 R.r9, .float .f64 R.r10, .float .f64 R.r11, .int .i64 R.ro, .float .f64 R.r13] 43)).alloc (.cells #[.float .f64 0, .float .f64 0, .float .f64 0, .float .f64 0, .float .f64 0, .float .f64 0, .float .f64 0, .float .f64 0, .float .f64 0, .float .f64 0] 98)) := bl_alloc (bl_alloc (bl_alloc (bl_refl w) _ _) _ _) _ _
  go_enter Try.func61, Try.ntmps61
  repeat (first | (with_reducible show Oper.wp _ _ _ _ _ _; refine wp_load_mid (P := Try.prog) 43 _ rfl (w.heap.size + 1) 0 rfl [.int .i64 R.ra, .int .i64 R.rb, .float .f64 R.r2, .float .f64 R.r3, .float .f64 R.r4, .float .f64 R.r5, .float .f64 R.r6, .float .f64 R.r7, .float .f64 R.r8, .float .f64 R.r9, .float .f64 R.r10, .float .f64 R.r11, .int .i64 R.ro, .float .f64 R.r13] _ hR Try.underlying43 rfl (by kernel_rfl) ?_; simp only [go_sem]) | (go_at_call 101; refine (grips_w R _).mono ?_; rintro e w' ⟨rfl, hb⟩) | go_values | go_skip | go_guarded | go_step | go_upon | go_back | dsimp only)
  go_loopw [13] (fun i wr => ∃ k : Nat, k ≤ 2 ∧ i = .int .i64 k ∧ ∃ x y s x2 y2 s2, Li w wr R a b P k x y s x2 y2 s2) (fun i _ => 2 - (intOf i).toNat)
  case atStart =>
    have z := hb.size
    simp only [World.size_alloc] at z
    exact ⟨0, by omega, rfl, _, _, _, _, _, _, bl_trans B0 hb, hT.bel hb, bel_there hU hb, by omega, isF_r oax, isF_r oay, isF_r oas, isF_r obx, isF_r oby, isF_r obs⟩
  case round =>
    clear hR hT hU B0 hb
    obtain ⟨k, hk, rfl, fx, fy, fs, gx2, gy2, gs2, hB, hT, hU, hz, hfx, hfy, hfs, hgx2, hgy2, hgs2⟩ := hrel
    have hG : w.heap.size + 1 + 1 < wr.heap.size := hz
    by_cases hlt : k < 2
    · rcases (show k = 0 ∨ k = 1 by omega) with rfl | rfl
      · simp only [if_true] at hfx hfy hfs
        simp only [Nat.zero_le, if_true] at hgx2 hgy2 hgs2
        cases hm : ltK .f64 0 a.sm
        · cases hi : ltK .f64 0 a.si
          · as_aux_lemma =>
            have qi : ∀ X : World, (Instr.index 135 (.agg #[.float .f64 R.r2, .float .f64 R.r3, .float .f64 R.r6, .float .f64 R.r4, .float .f64 R.r5, .float .f64 R.r7]) (.int .i64 0)).run Try.prog X = .ok (.agg #[.float .f64 R.r2, .float .f64 R.r3, .float .f64 R.r6]) X := fun X => by kernel_rfl
            have km : (wr.alloc (.cells #[.float .f64 R.r2, .float .f64 R.r3, .float .f64 R.r6] 134)).cell? ⟨w.heap.size, 0, none⟩ = some (.float .f64 a.sm) := up_alloc (hT.1 0 _ rfl)
            have ki : (wr.alloc (.cells #[.float .f64 R.r2, .float .f64 R.r3, .float .f64 R.r6] 134)).cell? ⟨w.heap.size, 1, none⟩ = some (.float .f64 a.si) := up_alloc (hT.1 1 _ rfl)
            go_wp2
            refine ⟨⟨0 + 1, by omega, by go_num, _, _, _, _, _, _, bl_trans hB (by repeat (first | exact bl_refl _ | assumption | apply bl_drewN | apply bl_drew | apply bl_alloc | refine bl_set ?_ (by simp <;> omega) | refine bl_trans ?_ (by assumption))), hT.bel (by repeat (first | exact bl_refl _ | assumption | apply bl_drewN | apply bl_drew | apply bl_alloc | refine bl_set ?_ (by simp <;> omega) | refine bl_trans ?_ (by assumption))), bel_there hU (by repeat (first | exact bl_refl _ | assumption | apply bl_drewN | apply bl_drew | apply bl_alloc | refine bl_set ?_ (by simp <;> omega) | refine bl_trans ?_ (by assumption))), by simp only [World.size_alloc] <;> omega, (pu_no hm hfx).1, (pu_no hm hfy).1, (pu_no hi hfs).2, hgx2, hgy2, hgs2⟩, by simp [intOf] <;> omega⟩
          · as_aux_lemma =>
            have qi : ∀ X : World, (Instr.index 135 (.agg #[.float .f64 R.r2, .float .f64 R.r3, .float .f64 R.r6, .float .f64 R.r4, .float .f64 R.r5, .float .f64 R.r7]) (.int .i64 0)).run Try.prog X = .ok (.agg #[.float .f64 R.r2, .float .f64 R.r3, .float .f64 R.r6]) X := fun X => by kernel_rfl
            have km : (wr.alloc (.cells #[.float .f64 R.r2, .float .f64 R.r3, .float .f64 R.r6] 134)).cell? ⟨w.heap.size, 0, none⟩ = some (.float .f64 a.sm) := up_alloc (hT.1 0 _ rfl)
            have ki : (wr.alloc (.cells #[.float .f64 R.r2, .float .f64 R.r3, .float .f64 R.r6] 134)).cell? ⟨w.heap.size, 1, none⟩ = some (.float .f64 a.si) := up_alloc (hT.1 1 _ rfl)
            go_wp2
            refine at_world (fun W => Rd w W wr.heap.size a b fx fy fs gx2 gy2 gs2 R.r2 R.r3 R.r6) (rd_start hB hT hU hz (by repeat (first | exact bl_refl _ | assumption | apply bl_drewN | apply bl_drew | apply bl_alloc | refine bl_set ?_ (by simp <;> omega) | refine bl_trans ?_ (by assumption)))) ?_
            clear hT hU hz km ki
            rintro cur ⟨hB9, hT, hg, hU, hz, hgz⟩
            refine wp_region_ret2 17 16 13 rfl (fun i v => match i with | 0 => v = .pointer (some ⟨w.heap.size, 0, none⟩) | 1 => v = .pointer (some ⟨w.heap.size, 0, none⟩) | 2 => v = .pointer (some ⟨w.heap.size, 4, none⟩) | 3 => v = .float .f64 fs | 4 => v = .pointer (some ⟨w.heap.size, 0, none⟩) | 5 => v = .pointer (some ⟨w.heap.size, 0, none⟩) | 6 => v = .pointer (some ⟨w.heap.size, 1, none⟩) | 7 => v = .float .f64 a.si | 8 => v = .float .f64 p | 9 => v = .pointer (some ⟨wr.heap.size, 2, none⟩) | 10 => v = .float .f64 R.r6 | 11 => ∃ p, isF p (oF .mul P (bitsK R.r6)) ∧ v = .float .f64 p | 12 => ∃ p, isF p (oF .mul (bitsK a.si) (oF .mul P (bitsK R.r6))) ∧ v = .float .f64 p | 13 => ∃ p, isF p (oF .add (bitsK a.ss) (oF .mul (bitsK a.si) (oF .mul P (bitsK R.r6)))) ∧ v = .float .f64 p | 14 => v = .pointer (some ⟨w.heap.size, 0, none⟩) | 15 => v = .pointer (some ⟨w.heap.size, 4, none⟩) | _ => False) (put1 (w.heap.size) 4) ?A_r0201 (by kernel_rfl) (by kernel_rfl) (by kernel_rfl) (by decide) (by decide) ?hA_r0201 ?hst_r0201 ?hq_r0201 ?ht_r0201
            case hA_r0201 =>
              intro s
              simp only [putL, dstO, Act.put, List.getElem?_toArray, List.getElem?_cons_zero, List.getElem?_cons_succ, Option.bind_some, List.setIfInBounds_toArray, List.set_cons_zero, List.set_cons_succ, if_true]
              all_goals exact rfl
            case hst_r0201 =>
              intro o ho s hs W hb K hK
              cases ho
              have v0 := keep hb (hT.1 4 _ rfl); rw [Nat.zero_add] at v0; have v1 := (bel_there hT.2 hb 4 (by decide)).2; rw [Nat.zero_add] at v1
              have e15 : s 15 = _ := hs 15 (by decide) (by kernel_rfl)
              obtain ⟨p13, h13, e13⟩ := hs 13 (by decide) (by kernel_rfl)
              simp only [e15, e13] at hK ⊢
              clear hs
              go_simp
              exact hK.out
            case hq_r0201 =>
              intro i o hi hne ho s hs W hb hbf K hK
              have q1 := run_mul Try.prog; have q2 := run_add Try.prog; have ug := once_keep1 hb (hg 2 _ rfl) (.inl (by simp only; omega)); rw [Nat.zero_add] at ug; have ui := once_keep1 hb (hT.1 1 _ rfl) (.inr (by simp only; omega)); rw [Nat.zero_add] at ui
              rcases (show i = 0 ∨ i = 1 ∨ i = 2 ∨ i = 3 ∨ i = 4 ∨ i = 5 ∨ i = 6 ∨ i = 7 ∨ i = 8 ∨ i = 9 ∨ i = 10 ∨ i = 11 ∨ i = 12 ∨ i = 13 ∨ i = 14 ∨ i = 15 ∨ i = 16 by omega) with rfl | rfl | rfl | rfl | rfl | rfl | rfl | rfl | rfl | rfl | rfl | rfl | rfl | rfl | rfl | rfl | rfl
              · cases ho
                simp only [Act.put, List.setIfInBounds_toArray, List.set_cons_zero, List.set_cons_succ] at hK
                clear hs hne hbf
                go_simp
                all_goals first | with_reducible exact hK.out _ _ rfl (bl_refl _) | exact hK.out _ _ rfl (bl_refl _)
              · cases ho
                have e0 : s 0 = _ := hs 0 (by decide) (by decide) (by kernel_rfl)
                simp only [e0] at hK ⊢
                simp only [Act.put, List.setIfInBounds_toArray, List.set_cons_zero, List.set_cons_succ] at hK
                clear hs hne hbf
                go_simp
                all_goals first | with_reducible exact hK.out _ _ rfl (bl_refl _) | exact hK.out _ _ rfl (bl_refl _)
              · cases ho
                have e1 : s 1 = _ := hs 1 (by decide) (by decide) (by kernel_rfl)
                simp only [e1] at hK ⊢
                simp only [Act.put, List.setIfInBounds_toArray, List.set_cons_zero, List.set_cons_succ] at hK
                clear hs hne hbf
                go_simp
                all_goals first | with_reducible exact hK.out _ _ rfl (bl_refl _) | exact hK.out _ _ rfl (bl_refl _)
              · cases ho
                have hB2 := hbf (by kernel_rfl); have u4 := keep hB2 (hT.1 4 _ rfl); rw [Nat.zero_add] at u4
                have e2 : s 2 = _ := hs 2 (by decide) (by decide) (by kernel_rfl)
                simp only [e2] at hK ⊢
                simp only [Act.put, List.setIfInBounds_toArray, List.set_cons_zero, List.set_cons_succ] at hK
                clear hs hne hbf
                go_simp
                all_goals first | with_reducible exact hK.out _ _ rfl (bl_refl _) | exact hK.out _ _ rfl (bl_refl _)
              · cases ho
                simp only [Act.put, List.setIfInBounds_toArray, List.set_cons_zero, List.set_cons_succ] at hK
                clear hs hne hbf
                go_simp
                all_goals first | with_reducible exact hK.out _ _ rfl (bl_refl _) | exact hK.out _ _ rfl (bl_refl _)
              · cases ho
                have e4 : s 4 = _ := hs 4 (by decide) (by decide) (by kernel_rfl)
                simp only [e4] at hK ⊢
                simp only [Act.put, List.setIfInBounds_toArray, List.set_cons_zero, List.set_cons_succ] at hK
                clear hs hne hbf
                go_simp
                all_goals first | with_reducible exact hK.out _ _ rfl (bl_refl _) | exact hK.out _ _ rfl (bl_refl _)
              · cases ho
                have e5 : s 5 = _ := hs 5 (by decide) (by decide) (by kernel_rfl)
                simp only [e5] at hK ⊢
                simp only [Act.put, List.setIfInBounds_toArray, List.set_cons_zero, List.set_cons_succ] at hK
                clear hs hne hbf
                go_simp
                all_goals first | with_reducible exact hK.out _ _ rfl (bl_refl _) | exact hK.out _ _ rfl (bl_refl _)
              · cases ho
                have e6 : s 6 = _ := hs 6 (by decide) (by decide) (by kernel_rfl)
                simp only [e6] at hK ⊢
                simp only [Act.put, List.setIfInBounds_toArray, List.set_cons_zero, List.set_cons_succ] at hK
                clear hs hne hbf
                go_simp
                all_goals first | with_reducible exact hK.out _ _ rfl (bl_refl _) | exact hK.out _ _ rfl (bl_refl _)
              · cases ho
                simp only [Act.put, List.setIfInBounds_toArray, List.set_cons_zero, List.set_cons_succ] at hK
                clear hs hne hbf
                go_simp
                all_goals first | with_reducible exact hK.out _ _ rfl (bl_refl _) | exact hK.out _ _ rfl (bl_refl _)
              · cases ho
                simp only [Act.put, List.setIfInBounds_toArray, List.set_cons_zero, List.set_cons_succ] at hK
                clear hs hne hbf
                go_simp
                all_goals first | with_reducible exact hK.out _ _ rfl (bl_refl _) | exact hK.out _ _ rfl (bl_refl _)
              · cases ho
                have e9 : s 9 = _ := hs 9 (by decide) (by decide) (by kernel_rfl)
                simp only [e9] at hK ⊢
                simp only [Act.put, List.setIfInBounds_toArray, List.set_cons_zero, List.set_cons_succ] at hK
                clear hs hne hbf
                go_simp
                all_goals first | with_reducible exact hK.out _ _ rfl (bl_refl _) | exact hK.out _ _ rfl (bl_refl _)
              · cases ho
                have e8 : s 8 = _ := hs 8 (by decide) (by decide) (by kernel_rfl)
                have e10 : s 10 = _ := hs 10 (by decide) (by decide) (by kernel_rfl)
                simp only [e8, e10] at hK ⊢
                simp only [Act.put, List.setIfInBounds_toArray, List.set_cons_zero, List.set_cons_succ] at hK
                clear hs hne hbf
                go_simp
                all_goals first | with_reducible exact hK.out _ _ ⟨_, o_is _ hP (isF_r o6), rfl⟩ (by first | exact bl_refl _ | exact bl_drewN (bl_refl _) _ | exact bl_drew (bl_refl _)) | exact hK.out _ _ ⟨_, o_is _ hP (isF_r o6), rfl⟩ (by first | exact bl_refl _ | exact bl_drewN (bl_refl _) _ | exact bl_drew (bl_refl _)) | with_reducible exact hK.out _ _ rfl (bl_refl _) | exact hK.out _ _ rfl (bl_refl _)
              · cases ho
                have e7 : s 7 = _ := hs 7 (by decide) (by decide) (by kernel_rfl)
                obtain ⟨p11, h11, e11⟩ := hs 11 (by decide) (by decide) (by kernel_rfl)
                simp only [e7, e11] at hK ⊢
                simp only [Act.put, List.setIfInBounds_toArray, List.set_cons_zero, List.set_cons_succ] at hK
                clear hs hne hbf
                go_simp
                all_goals first | with_reducible exact hK.out _ _ ⟨_, o_is _ (isF_r oai) h11, rfl⟩ (by first | exact bl_refl _ | exact bl_drewN (bl_refl _) _ | exact bl_drew (bl_refl _)) | exact hK.out _ _ ⟨_, o_is _ (isF_r oai) h11, rfl⟩ (by first | exact bl_refl _ | exact bl_drewN (bl_refl _) _ | exact bl_drew (bl_refl _)) | with_reducible exact hK.out _ _ rfl (bl_refl _) | exact hK.out _ _ rfl (bl_refl _)
              · cases ho
                have e3 : s 3 = _ := hs 3 (by decide) (by decide) (by kernel_rfl)
                obtain ⟨p12, h12, e12⟩ := hs 12 (by decide) (by decide) (by kernel_rfl)
                simp only [e3, e12] at hK ⊢
                simp only [Act.put, List.setIfInBounds_toArray, List.set_cons_zero, List.set_cons_succ] at hK
                clear hs hne hbf
                go_simp
                all_goals first | with_reducible exact hK.out _ _ ⟨_, o_is _ hfs h12, rfl⟩ (by first | exact bl_refl _ | exact bl_drewN (bl_refl _) _ | exact bl_drew (bl_refl _)) | exact hK.out _ _ ⟨_, o_is _ hfs h12, rfl⟩ (by first | exact bl_refl _ | exact bl_drewN (bl_refl _) _ | exact bl_drew (bl_refl _)) | with_reducible exact hK.out _ _ rfl (bl_refl _) | exact hK.out _ _ rfl (bl_refl _)
              · cases ho
                have e0 : s 0 = _ := hs 0 (by decide) (by decide) (by kernel_rfl)
                simp only [e0] at hK ⊢
                simp only [Act.put, List.setIfInBounds_toArray, List.set_cons_zero, List.set_cons_succ] at hK
                clear hs hne hbf
                go_simp
                all_goals first | with_reducible exact hK.out _ _ rfl (bl_refl _) | exact hK.out _ _ rfl (bl_refl _)
              · cases ho
                have e14 : s 14 = _ := hs 14 (by decide) (by decide) (by kernel_rfl)
                simp only [e14] at hK ⊢
                simp only [Act.put, List.setIfInBounds_toArray, List.set_cons_zero, List.set_cons_succ] at hK
                clear hs hne hbf
                go_simp
                all_goals first | with_reducible exact hK.out _ _ rfl (bl_refl _) | exact hK.out _ _ rfl (bl_refl _)
              · exact absurd rfl hne
            case ht_r0201 =>
              intro s hs W0 W hb0 hb
              have e0 : s 0 = _ := hs 0 (by decide) (by decide)
              have e1 : s 1 = _ := hs 1 (by decide) (by decide)
              have e2 : s 2 = _ := hs 2 (by decide) (by decide)
              have e3 : s 3 = _ := hs 3 (by decide) (by decide)
              have e4 : s 4 = _ := hs 4 (by decide) (by decide)
              have e5 : s 5 = _ := hs 5 (by decide) (by decide)
              have e6 : s 6 = _ := hs 6 (by decide) (by decide)
              have e7 : s 7 = _ := hs 7 (by decide) (by decide)
              have e8 : s 8 = _ := hs 8 (by decide) (by decide)
              have e9 : s 9 = _ := hs 9 (by decide) (by decide)
              have e10 : s 10 = _ := hs 10 (by decide) (by decide)
              obtain ⟨p11, h11, e11⟩ := hs 11 (by decide) (by decide)
              obtain ⟨p12, h12, e12⟩ := hs 12 (by decide) (by decide)
              obtain ⟨p13, h13, e13⟩ := hs 13 (by decide) (by decide)
              have e14 : s 14 = _ := hs 14 (by decide) (by decide)
              have e15 : s 15 = _ := hs 15 (by decide) (by decide)
              simp only [e0, e1, e2, e3, e4, e5, e6, e7, e8, e9, e10, e11, e12, e13, e14, e15]
              rw [e13] at hb
              clear hs e0 e1 e2 e3 e4 e5 e6 e7 e8 e9 e10 e11 e12 e13 e14 e15
              have hR9 : Rd w W wr.heap.size a b fx fy p13 gx2 gy2 gs2 R.r2 R.r3 R.r6 := Rd.bel (Rd.put4 (Rd.bel (show Rd w cur wr.heap.size a b fx fy fs gx2 gy2 gs2 R.r2 R.r3 R.r6 from ⟨hB9, hT, hg, hU, hz, hgz⟩) hb0) hG) hb
              clear hb0 hb hB9 hT hg hU hz hgz cur W0
              have hn2 := h13
              generalize p13 = v2 at hn2 hR9
              obtain ⟨hB9, hT, hg, hU, hz, hgz⟩ := hR9
              have ki : W.cell? ⟨w.heap.size, 1, none⟩ = some (.float .f64 a.si) := hT.1 1 _ rfl
              go_wp2
              refine ⟨⟨0 + 1, by omega, by go_num, _, _, _, _, _, _, hB9, hT, hU, hz, (pu_no hm hfx).1, (pu_no hm hfy).1, puT_yes hi hn2, hgx2, hgy2, hgs2⟩, by simp [intOf] <;> omega⟩
        · have hF : ∀ W : World, isF (fv .mul .f64 a.sm p W) (oF .mul (bitsK a.sm) P) := fun W => o_is W (isF_r oam) hP
          cases hi : ltK .f64 0 a.si
          · as_aux_lemma =>
            have qi : ∀ X : World, (Instr.index 135 (.agg #[.float .f64 R.r2, .float .f64 R.r3, .float .f64 R.r6, .float .f64 R.r4, .float .f64 R.r5, .float .f64 R.r7]) (.int .i64 0)).run Try.prog X = .ok (.agg #[.float .f64 R.r2, .float .f64 R.r3, .float .f64 R.r6]) X := fun X => by kernel_rfl
            have km : (wr.alloc (.cells #[.float .f64 R.r2, .float .f64 R.r3, .float .f64 R.r6] 134)).cell? ⟨w.heap.size, 0, none⟩ = some (.float .f64 a.sm) := up_alloc (hT.1 0 _ rfl)
            have ki : (wr.alloc (.cells #[.float .f64 R.r2, .float .f64 R.r3, .float .f64 R.r6] 134)).cell? ⟨w.heap.size, 1, none⟩ = some (.float .f64 a.si) := up_alloc (hT.1 1 _ rfl)
            go_wp2
            refine at_world (fun W => Rd w W wr.heap.size a b fx fy fs gx2 gy2 gs2 R.r2 R.r3 R.r6) (rd_start hB hT hU hz (by repeat (first | exact bl_refl _ | assumption | apply bl_drewN | apply bl_drew | apply bl_alloc | refine bl_set ?_ (by simp <;> omega) | refine bl_trans ?_ (by assumption)))) ?_
            clear hT hU hz km ki
            rintro cur ⟨hB9, hT, hg, hU, hz, hgz⟩
            refine wp_region_ret2 15 14 10 rfl (fun i v => match i with | 0 => v = .pointer (some ⟨w.heap.size, 0, none⟩) | 1 => v = .pointer (some ⟨w.heap.size, 0, none⟩) | 2 => v = .pointer (some ⟨w.heap.size, 2, none⟩) | 3 => v = .pointer (some ⟨w.heap.size, 2, none⟩) | 4 => v = .float .f64 fx | 5 => ∃ p, isF p (oF .mul (bitsK a.sm) P) ∧ v = .float .f64 p | 6 => v = .pointer (some ⟨wr.heap.size, 0, none⟩) | 7 => v = .pointer (some ⟨wr.heap.size, 0, none⟩) | 8 => v = .float .f64 R.r2 | 9 => ∃ p, isF p (oF .mul (oF .mul (bitsK a.sm) P) (bitsK R.r2)) ∧ v = .float .f64 p | 10 => ∃ p, isF p (oF .add (bitsK a.sx) (oF .mul (oF .mul (bitsK a.sm) P) (bitsK R.r2))) ∧ v = .float .f64 p | 11 => v = .pointer (some ⟨w.heap.size, 0, none⟩) | 12 => v = .pointer (some ⟨w.heap.size, 2, none⟩) | 13 => v = .pointer (some ⟨w.heap.size, 2, none⟩) | _ => False) (put1 (w.heap.size) 2) ?A_r0010 (by kernel_rfl) (by kernel_rfl) (by kernel_rfl) (by decide) (by decide) ?hA_r0010 ?hst_r0010 ?hq_r0010 ?ht_r0010
            case hA_r0010 =>
              intro s
              simp only [putL, dstO, Act.put, List.getElem?_toArray, List.getElem?_cons_zero, List.getElem?_cons_succ, Option.bind_some, List.setIfInBounds_toArray, List.set_cons_zero, List.set_cons_succ, if_true]
              all_goals exact rfl
            case hst_r0010 =>
              intro o ho s hs W hb K hK
              cases ho
              have v0 := keep hb (hT.1 2 _ rfl); rw [Nat.zero_add] at v0; have v1 := (bel_there hT.2 hb 2 (by decide)).2; rw [Nat.zero_add] at v1
              have e13 : s 13 = _ := hs 13 (by decide) (by kernel_rfl)
              obtain ⟨p10, h10, e10⟩ := hs 10 (by decide) (by kernel_rfl)
              simp only [e13, e10] at hK ⊢
              clear hs
              go_simp
              exact hK.out
            case hq_r0010 =>
              intro i o hi hne ho s hs W hb hbf K hK
              have q1 := run_mul Try.prog; have q2 := run_add Try.prog; have ug := once_keep1 hb (hg 0 _ rfl) (.inl (by simp only; omega)); rw [Nat.zero_add] at ug
              rcases (show i = 0 ∨ i = 1 ∨ i = 2 ∨ i = 3 ∨ i = 4 ∨ i = 5 ∨ i = 6 ∨ i = 7 ∨ i = 8 ∨ i = 9 ∨ i = 10 ∨ i = 11 ∨ i = 12 ∨ i = 13 ∨ i = 14 by omega) with rfl | rfl | rfl | rfl | rfl | rfl | rfl | rfl | rfl | rfl | rfl | rfl | rfl | rfl | rfl
              · cases ho
                simp only [Act.put, List.setIfInBounds_toArray, List.set_cons_zero, List.set_cons_succ] at hK
                clear hs hne hbf
                go_simp
                all_goals first | with_reducible exact hK.out _ _ rfl (bl_refl _) | exact hK.out _ _ rfl (bl_refl _)
              · cases ho
                have e0 : s 0 = _ := hs 0 (by decide) (by decide) (by kernel_rfl)
                simp only [e0] at hK ⊢
                simp only [Act.put, List.setIfInBounds_toArray, List.set_cons_zero, List.set_cons_succ] at hK
                clear hs hne hbf
                go_simp
                all_goals first | with_reducible exact hK.out _ _ rfl (bl_refl _) | exact hK.out _ _ rfl (bl_refl _)
              · cases ho
                have e1 : s 1 = _ := hs 1 (by decide) (by decide) (by kernel_rfl)
                simp only [e1] at hK ⊢
                simp only [Act.put, List.setIfInBounds_toArray, List.set_cons_zero, List.set_cons_succ] at hK
                clear hs hne hbf
                go_simp
                all_goals first | with_reducible exact hK.out _ _ rfl (bl_refl _) | exact hK.out _ _ rfl (bl_refl _)
              · cases ho
                have e2 : s 2 = _ := hs 2 (by decide) (by decide) (by kernel_rfl)
                simp only [e2] at hK ⊢
                simp only [Act.put, List.setIfInBounds_toArray, List.set_cons_zero, List.set_cons_succ] at hK
                clear hs hne hbf
                go_simp
                all_goals first | with_reducible exact hK.out _ _ rfl (bl_refl _) | exact hK.out _ _ rfl (bl_refl _)
              · cases ho
                have hB2 := hbf (by kernel_rfl); have u4 := keep hB2 (hT.1 2 _ rfl); rw [Nat.zero_add] at u4
                have e3 : s 3 = _ := hs 3 (by decide) (by decide) (by kernel_rfl)
                simp only [e3] at hK ⊢
                simp only [Act.put, List.setIfInBounds_toArray, List.set_cons_zero, List.set_cons_succ] at hK
                clear hs hne hbf
                go_simp
                all_goals first | with_reducible exact hK.out _ _ rfl (bl_refl _) | exact hK.out _ _ rfl (bl_refl _)
              · cases ho
                simp only [Act.put, List.setIfInBounds_toArray, List.set_cons_zero, List.set_cons_succ] at hK
                clear hs hne hbf
                go_simp
                all_goals first | with_reducible exact hK.out _ _ ⟨_, hF _, rfl⟩ (bl_refl _) | exact hK.out _ _ ⟨_, hF _, rfl⟩ (bl_refl _) | with_reducible exact hK.out _ _ rfl (bl_refl _) | exact hK.out _ _ rfl (bl_refl _)
              · cases ho
                simp only [Act.put, List.setIfInBounds_toArray, List.set_cons_zero, List.set_cons_succ] at hK
                clear hs hne hbf
                go_simp
                all_goals first | with_reducible exact hK.out _ _ rfl (bl_refl _) | exact hK.out _ _ rfl (bl_refl _)
              · cases ho
                have e6 : s 6 = _ := hs 6 (by decide) (by decide) (by kernel_rfl)
                simp only [e6] at hK ⊢
                simp only [Act.put, List.setIfInBounds_toArray, List.set_cons_zero, List.set_cons_succ] at hK
                clear hs hne hbf
                go_simp
                all_goals first | with_reducible exact hK.out _ _ rfl (bl_refl _) | exact hK.out _ _ rfl (bl_refl _)
              · cases ho
                have e7 : s 7 = _ := hs 7 (by decide) (by decide) (by kernel_rfl)
                simp only [e7] at hK ⊢
                simp only [Act.put, List.setIfInBounds_toArray, List.set_cons_zero, List.set_cons_succ] at hK
                clear hs hne hbf
                go_simp
                all_goals first | with_reducible exact hK.out _ _ rfl (bl_refl _) | exact hK.out _ _ rfl (bl_refl _)
              · cases ho
                obtain ⟨p5, h5, e5⟩ := hs 5 (by decide) (by decide) (by kernel_rfl)
                have e8 : s 8 = _ := hs 8 (by decide) (by decide) (by kernel_rfl)
                simp only [e5, e8] at hK ⊢
                simp only [Act.put, List.setIfInBounds_toArray, List.set_cons_zero, List.set_cons_succ] at hK
                clear hs hne hbf
                go_simp
                all_goals first | with_reducible exact hK.out _ _ ⟨_, o_is _ h5 (isF_r o2), rfl⟩ (by first | exact bl_refl _ | exact bl_drewN (bl_refl _) _ | exact bl_drew (bl_refl _)) | exact hK.out _ _ ⟨_, o_is _ h5 (isF_r o2), rfl⟩ (by first | exact bl_refl _ | exact bl_drewN (bl_refl _) _ | exact bl_drew (bl_refl _)) | with_reducible exact hK.out _ _ rfl (bl_refl _) | exact hK.out _ _ rfl (bl_refl _)
              · cases ho
                have e4 : s 4 = _ := hs 4 (by decide) (by decide) (by kernel_rfl)
                obtain ⟨p9, h9, e9⟩ := hs 9 (by decide) (by decide) (by kernel_rfl)
                simp only [e4, e9] at hK ⊢
                simp only [Act.put, List.setIfInBounds_toArray, List.set_cons_zero, List.set_cons_succ] at hK
                clear hs hne hbf
                go_simp
                all_goals first | with_reducible exact hK.out _ _ ⟨_, o_is _ hfx h9, rfl⟩ (by first | exact bl_refl _ | exact bl_drewN (bl_refl _) _ | exact bl_drew (bl_refl _)) | exact hK.out _ _ ⟨_, o_is _ hfx h9, rfl⟩ (by first | exact bl_refl _ | exact bl_drewN (bl_refl _) _ | exact bl_drew (bl_refl _)) | with_reducible exact hK.out _ _ rfl (bl_refl _) | exact hK.out _ _ rfl (bl_refl _)
              · cases ho
                have e0 : s 0 = _ := hs 0 (by decide) (by decide) (by kernel_rfl)
                simp only [e0] at hK ⊢
                simp only [Act.put, List.setIfInBounds_toArray, List.set_cons_zero, List.set_cons_succ] at hK
                clear hs hne hbf
                go_simp
                all_goals first | with_reducible exact hK.out _ _ rfl (bl_refl _) | exact hK.out _ _ rfl (bl_refl _)
              · cases ho
                have e11 : s 11 = _ := hs 11 (by decide) (by decide) (by kernel_rfl)
                simp only [e11] at hK ⊢
                simp only [Act.put, List.setIfInBounds_toArray, List.set_cons_zero, List.set_cons_succ] at hK
                clear hs hne hbf
                go_simp
                all_goals first | with_reducible exact hK.out _ _ rfl (bl_refl _) | exact hK.out _ _ rfl (bl_refl _)
              · cases ho
                have e12 : s 12 = _ := hs 12 (by decide) (by decide) (by kernel_rfl)
                simp only [e12] at hK ⊢
                simp only [Act.put, List.setIfInBounds_toArray, List.set_cons_zero, List.set_cons_succ] at hK
                clear hs hne hbf
                go_simp
                all_goals first | with_reducible exact hK.out _ _ rfl (bl_refl _) | exact hK.out _ _ rfl (bl_refl _)
              · exact absurd rfl hne
            case ht_r0010 =>
              intro s hs W0 W hb0 hb
              have e0 : s 0 = _ := hs 0 (by decide) (by decide)
              have e1 : s 1 = _ := hs 1 (by decide) (by decide)
              have e2 : s 2 = _ := hs 2 (by decide) (by decide)
              have e3 : s 3 = _ := hs 3 (by decide) (by decide)
              have e4 : s 4 = _ := hs 4 (by decide) (by decide)
              obtain ⟨p5, h5, e5⟩ := hs 5 (by decide) (by decide)
              have e6 : s 6 = _ := hs 6 (by decide) (by decide)
              have e7 : s 7 = _ := hs 7 (by decide) (by decide)
              have e8 : s 8 = _ := hs 8 (by decide) (by decide)
              obtain ⟨p9, h9, e9⟩ := hs 9 (by decide) (by decide)
              obtain ⟨p10, h10, e10⟩ := hs 10 (by decide) (by decide)
              have e11 : s 11 = _ := hs 11 (by decide) (by decide)
              have e12 : s 12 = _ := hs 12 (by decide) (by decide)
              have e13 : s 13 = _ := hs 13 (by decide) (by decide)
              simp only [e0, e1, e2, e3, e4, e5, e6, e7, e8, e9, e10, e11, e12, e13]
              rw [e10] at hb
              clear hs e0 e1 e2 e3 e4 e5 e6 e7 e8 e9 e10 e11 e12 e13
              have hR9 : Rd w W wr.heap.size a b p10 fy fs gx2 gy2 gs2 R.r2 R.r3 R.r6 := Rd.bel (Rd.put2 (Rd.bel (show Rd w cur wr.heap.size a b fx fy fs gx2 gy2 gs2 R.r2 R.r3 R.r6 from ⟨hB9, hT, hg, hU, hz, hgz⟩) hb0) hG) hb
              clear hb0 hb hB9 hT hg hU hz hgz cur W0
              have hn0 := h10
              generalize p10 = v0 at hn0 hR9
              obtain ⟨hB9, hT, hg, hU, hz, hgz⟩ := hR9
              have ki : W.cell? ⟨w.heap.size, 1, none⟩ = some (.float .f64 a.si) := hT.1 1 _ rfl
              go_wp2
              refine at_world (fun W => Rd w W wr.heap.size a b v0 fy fs gx2 gy2 gs2 R.r2 R.r3 R.r6) (Rd.bel ⟨hB9, hT, hg, hU, hz, hgz⟩ (by repeat (first | exact bl_refl _ | assumption | apply bl_drewN | apply bl_drew | apply bl_alloc | refine bl_set ?_ (by simp <;> omega) | refine bl_trans ?_ (by assumption)))) ?_
              clear hT hU hz ki hg hgz hB9
              rintro cur ⟨hB9, hT, hg, hU, hz, hgz⟩
              refine wp_region_ret2 15 14 10 rfl (fun i v => match i with | 0 => v = .pointer (some ⟨w.heap.size, 0, none⟩) | 1 => v = .pointer (some ⟨w.heap.size, 0, none⟩) | 2 => v = .pointer (some ⟨w.heap.size, 2, none⟩) | 3 => v = .pointer (some ⟨w.heap.size, 3, none⟩) | 4 => v = .float .f64 fy | 5 => ∃ p, isF p (oF .mul (bitsK a.sm) P) ∧ v = .float .f64 p | 6 => v = .pointer (some ⟨wr.heap.size, 0, none⟩) | 7 => v = .pointer (some ⟨wr.heap.size, 1, none⟩) | 8 => v = .float .f64 R.r3 | 9 => ∃ p, isF p (oF .mul (oF .mul (bitsK a.sm) P) (bitsK R.r3)) ∧ v = .float .f64 p | 10 => ∃ p, isF p (oF .add (bitsK a.sy) (oF .mul (oF .mul (bitsK a.sm) P) (bitsK R.r3))) ∧ v = .float .f64 p | 11 => v = .pointer (some ⟨w.heap.size, 0, none⟩) | 12 => v = .pointer (some ⟨w.heap.size, 2, none⟩) | 13 => v = .pointer (some ⟨w.heap.size, 3, none⟩) | _ => False) (put1 (w.heap.size) 3) ?A_r0110 (by kernel_rfl) (by kernel_rfl) (by kernel_rfl) (by decide) (by decide) ?hA_r0110 ?hst_r0110 ?hq_r0110 ?ht_r0110
              case hA_r0110 =>
                intro s
                simp only [putL, dstO, Act.put, List.getElem?_toArray, List.getElem?_cons_zero, List.getElem?_cons_succ, Option.bind_some, List.setIfInBounds_toArray, List.set_cons_zero, List.set_cons_succ, if_true]
                all_goals exact rfl
              case hst_r0110 =>
                intro o ho s hs W hb K hK
                cases ho
                have v0 := keep hb (hT.1 3 _ rfl); rw [Nat.zero_add] at v0; have v1 := (bel_there hT.2 hb 3 (by decide)).2; rw [Nat.zero_add] at v1
                have e13 : s 13 = _ := hs 13 (by decide) (by kernel_rfl)
                obtain ⟨p10, h10, e10⟩ := hs 10 (by decide) (by kernel_rfl)
                simp only [e13, e10] at hK ⊢
                clear hs
                go_simp
                exact hK.out
              case hq_r0110 =>
                intro i o hi hne ho s hs W hb hbf K hK
                have q1 := run_mul Try.prog; have q2 := run_add Try.prog; have ug := once_keep1 hb (hg 1 _ rfl) (.inl (by simp only; omega)); rw [Nat.zero_add] at ug
                rcases (show i = 0 ∨ i = 1 ∨ i = 2 ∨ i = 3 ∨ i = 4 ∨ i = 5 ∨ i = 6 ∨ i = 7 ∨ i = 8 ∨ i = 9 ∨ i = 10 ∨ i = 11 ∨ i = 12 ∨ i = 13 ∨ i = 14 by omega) with rfl | rfl | rfl | rfl | rfl | rfl | rfl | rfl | rfl | rfl | rfl | rfl | rfl | rfl | rfl
                · cases ho
                  simp only [Act.put, List.setIfInBounds_toArray, List.set_cons_zero, List.set_cons_succ] at hK
                  clear hs hne hbf
                  go_simp
                  all_goals first | with_reducible exact hK.out _ _ rfl (bl_refl _) | exact hK.out _ _ rfl (bl_refl _)
                · cases ho
                  have e0 : s 0 = _ := hs 0 (by decide) (by decide) (by kernel_rfl)
                  simp only [e0] at hK ⊢
                  simp only [Act.put, List.setIfInBounds_toArray, List.set_cons_zero, List.set_cons_succ] at hK
                  clear hs hne hbf
                  go_simp
                  all_goals first | with_reducible exact hK.out _ _ rfl (bl_refl _) | exact hK.out _ _ rfl (bl_refl _)
                · cases ho
                  have e1 : s 1 = _ := hs 1 (by decide) (by decide) (by kernel_rfl)
                  simp only [e1] at hK ⊢
                  simp only [Act.put, List.setIfInBounds_toArray, List.set_cons_zero, List.set_cons_succ] at hK
                  clear hs hne hbf
                  go_simp
                  all_goals first | with_reducible exact hK.out _ _ rfl (bl_refl _) | exact hK.out _ _ rfl (bl_refl _)
                · cases ho
                  have e2 : s 2 = _ := hs 2 (by decide) (by decide) (by kernel_rfl)
                  simp only [e2] at hK ⊢
                  simp only [Act.put, List.setIfInBounds_toArray, List.set_cons_zero, List.set_cons_succ] at hK
                  clear hs hne hbf
                  go_simp
                  all_goals first | with_reducible exact hK.out _ _ rfl (bl_refl _) | exact hK.out _ _ rfl (bl_refl _)
                · cases ho
                  have hB2 := hbf (by kernel_rfl); have u4 := keep hB2 (hT.1 3 _ rfl); rw [Nat.zero_add] at u4
                  have e3 : s 3 = _ := hs 3 (by decide) (by decide) (by kernel_rfl)
                  simp only [e3] at hK ⊢
                  simp only [Act.put, List.setIfInBounds_toArray, List.set_cons_zero, List.set_cons_succ] at hK
                  clear hs hne hbf
                  go_simp
                  all_goals first | with_reducible exact hK.out _ _ rfl (bl_refl _) | exact hK.out _ _ rfl (bl_refl _)
                · cases ho
                  simp only [Act.put, List.setIfInBounds_toArray, List.set_cons_zero, List.set_cons_succ] at hK
                  clear hs hne hbf
                  go_simp
                  all_goals first | with_reducible exact hK.out _ _ ⟨_, hF _, rfl⟩ (bl_refl _) | exact hK.out _ _ ⟨_, hF _, rfl⟩ (bl_refl _) | with_reducible exact hK.out _ _ rfl (bl_refl _) | exact hK.out _ _ rfl (bl_refl _)
                · cases ho
                  simp only [Act.put, List.setIfInBounds_toArray, List.set_cons_zero, List.set_cons_succ] at hK
                  clear hs hne hbf
                  go_simp
                  all_goals first | with_reducible exact hK.out _ _ rfl (bl_refl _) | exact hK.out _ _ rfl (bl_refl _)
                · cases ho
                  have e6 : s 6 = _ := hs 6 (by decide) (by decide) (by kernel_rfl)
                  simp only [e6] at hK ⊢
                  simp only [Act.put, List.setIfInBounds_toArray, List.set_cons_zero, List.set_cons_succ] at hK
                  clear hs hne hbf
                  go_simp
                  all_goals first | with_reducible exact hK.out _ _ rfl (bl_refl _) | exact hK.out _ _ rfl (bl_refl _)
                · cases ho
                  have e7 : s 7 = _ := hs 7 (by decide) (by decide) (by kernel_rfl)
                  simp only [e7] at hK ⊢
                  simp only [Act.put, List.setIfInBounds_toArray, List.set_cons_zero, List.set_cons_succ] at hK
                  clear hs hne hbf
                  go_simp
                  all_goals first | with_reducible exact hK.out _ _ rfl (bl_refl _) | exact hK.out _ _ rfl (bl_refl _)
                · cases ho
                  obtain ⟨p5, h5, e5⟩ := hs 5 (by decide) (by decide) (by kernel_rfl)
                  have e8 : s 8 = _ := hs 8 (by decide) (by decide) (by kernel_rfl)
                  simp only [e5, e8] at hK ⊢
                  simp only [Act.put, List.setIfInBounds_toArray, List.set_cons_zero, List.set_cons_succ] at hK
                  clear hs hne hbf
                  go_simp
                  all_goals first | with_reducible exact hK.out _ _ ⟨_, o_is _ h5 (isF_r o3), rfl⟩ (by first | exact bl_refl _ | exact bl_drewN (bl_refl _) _ | exact bl_drew (bl_refl _)) | exact hK.out _ _ ⟨_, o_is _ h5 (isF_r o3), rfl⟩ (by first | exact bl_refl _ | exact bl_drewN (bl_refl _) _ | exact bl_drew (bl_refl _)) | with_reducible exact hK.out _ _ rfl (bl_refl _) | exact hK.out _ _ rfl (bl_refl _)
                · cases ho
                  have e4 : s 4 = _ := hs 4 (by decide) (by decide) (by kernel_rfl)
                  obtain ⟨p9, h9, e9⟩ := hs 9 (by decide) (by decide) (by kernel_rfl)
                  simp only [e4, e9] at hK ⊢
                  simp only [Act.put, List.setIfInBounds_toArray, List.set_cons_zero, List.set_cons_succ] at hK
                  clear hs hne hbf
                  go_simp
                  all_goals first | with_reducible exact hK.out _ _ ⟨_, o_is _ hfy h9, rfl⟩ (by first | exact bl_refl _ | exact bl_drewN (bl_refl _) _ | exact bl_drew (bl_refl _)) | exact hK.out _ _ ⟨_, o_is _ hfy h9, rfl⟩ (by first | exact bl_refl _ | exact bl_drewN (bl_refl _) _ | exact bl_drew (bl_refl _)) | with_reducible exact hK.out _ _ rfl (bl_refl _) | exact hK.out _ _ rfl (bl_refl _)
                · cases ho
                  have e0 : s 0 = _ := hs 0 (by decide) (by decide) (by kernel_rfl)
                  simp only [e0] at hK ⊢
                  simp only [Act.put, List.setIfInBounds_toArray, List.set_cons_zero, List.set_cons_succ] at hK
                  clear hs hne hbf
                  go_simp
                  all_goals first | with_reducible exact hK.out _ _ rfl (bl_refl _) | exact hK.out _ _ rfl (bl_refl _)
                · cases ho
                  have e11 : s 11 = _ := hs 11 (by decide) (by decide) (by kernel_rfl)
                  simp only [e11] at hK ⊢
                  simp only [Act.put, List.setIfInBounds_toArray, List.set_cons_zero, List.set_cons_succ] at hK
                  clear hs hne hbf
                  go_simp
                  all_goals first | with_reducible exact hK.out _ _ rfl (bl_refl _) | exact hK.out _ _ rfl (bl_refl _)
                · cases ho
                  have e12 : s 12 = _ := hs 12 (by decide) (by decide) (by kernel_rfl)
                  simp only [e12] at hK ⊢
                  simp only [Act.put, List.setIfInBounds_toArray, List.set_cons_zero, List.set_cons_succ] at hK
                  clear hs hne hbf
                  go_simp
                  all_goals first | with_reducible exact hK.out _ _ rfl (bl_refl _) | exact hK.out _ _ rfl (bl_refl _)
                · exact absurd rfl hne
              case ht_r0110 =>
                intro s hs W0 W hb0 hb
                have e0 : s 0 = _ := hs 0 (by decide) (by decide)
                have e1 : s 1 = _ := hs 1 (by decide) (by decide)
                have e2 : s 2 = _ := hs 2 (by decide) (by decide)
                have e3 : s 3 = _ := hs 3 (by decide) (by decide)
                have e4 : s 4 = _ := hs 4 (by decide) (by decide)
                obtain ⟨p5, h5, e5⟩ := hs 5 (by decide) (by decide)
                have e6 : s 6 = _ := hs 6 (by decide) (by decide)
                have e7 : s 7 = _ := hs 7 (by decide) (by decide)
                have e8 : s 8 = _ := hs 8 (by decide) (by decide)
                obtain ⟨p9, h9, e9⟩ := hs 9 (by decide) (by decide)
                obtain ⟨p10, h10, e10⟩ := hs 10 (by decide) (by decide)
                have e11 : s 11 = _ := hs 11 (by decide) (by decide)
                have e12 : s 12 = _ := hs 12 (by decide) (by decide)
                have e13 : s 13 = _ := hs 13 (by decide) (by decide)
                simp only [e0, e1, e2, e3, e4, e5, e6, e7, e8, e9, e10, e11, e12, e13]
                rw [e10] at hb
                clear hs e0 e1 e2 e3 e4 e5 e6 e7 e8 e9 e10 e11 e12 e13
                have hR9 : Rd w W wr.heap.size a b v0 p10 fs gx2 gy2 gs2 R.r2 R.r3 R.r6 := Rd.bel (Rd.put3 (Rd.bel (show Rd w cur wr.heap.size a b v0 fy fs gx2 gy2 gs2 R.r2 R.r3 R.r6 from ⟨hB9, hT, hg, hU, hz, hgz⟩) hb0) hG) hb
                clear hb0 hb hB9 hT hg hU hz hgz cur W0
                have hn1 := h10
                generalize p10 = v1 at hn1 hR9
                obtain ⟨hB9, hT, hg, hU, hz, hgz⟩ := hR9
                have ki : W.cell? ⟨w.heap.size, 1, none⟩ = some (.float .f64 a.si) := hT.1 1 _ rfl
                go_wp2
                refine ⟨⟨0 + 1, by omega, by go_num, _, _, _, _, _, _, hB9, hT, hU, hz, puX_yes hm hn0, puX_yes hm hn1, (pu_no hi hfs).2, hgx2, hgy2, hgs2⟩, by simp [intOf] <;> omega⟩
          · as_aux_lemma =>
            have qi : ∀ X : World, (Instr.index 135 (.agg #[.float .f64 R.r2, .float .f64 R.r3, .float .f64 R.r6, .float .f64 R.r4, .float .f64 R.r5, .float .f64 R.r7]) (.int .i64 0)).run Try.prog X = .ok (.agg #[.float .f64 R.r2, .float .f64 R.r3, .float .f64 R.r6]) X := fun X => by kernel_rfl
            have km : (wr.alloc (.cells #[.float .f64 R.r2, .float .f64 R.r3, .float .f64 R.r6] 134)).cell? ⟨w.heap.size, 0, none⟩ = some (.float .f64 a.sm) := up_alloc (hT.1 0 _ rfl)
            have ki : (wr.alloc (.cells #[.float .f64 R.r2, .float .f64 R.r3, .float .f64 R.r6] 134)).cell? ⟨w.heap.size, 1, none⟩ = some (.float .f64 a.si) := up_alloc (hT.1 1 _ rfl)
            go_wp2
            refine at_world (fun W => Rd w W wr.heap.size a b fx fy fs gx2 gy2 gs2 R.r2 R.r3 R.r6) (rd_start hB hT hU hz (by repeat (first | exact bl_refl _ | assumption | apply bl_drewN | apply bl_drew | apply bl_alloc | refine bl_set ?_ (by simp <;> omega) | refine bl_trans ?_ (by assumption)))) ?_
            clear hT hU hz km ki
            rintro cur ⟨hB9, hT, hg, hU, hz, hgz⟩
            refine wp_region_ret2 15 14 10 rfl (fun i v => match i with | 0 => v = .pointer (some ⟨w.heap.size, 0, none⟩) | 1 => v = .pointer (some ⟨w.heap.size, 0, none⟩) | 2 => v = .pointer (some ⟨w.heap.size, 2, none⟩) | 3 => v = .pointer (some ⟨w.heap.size, 2, none⟩) | 4 => v = .float .f64 fx | 5 => ∃ p, isF p (oF .mul (bitsK a.sm) P) ∧ v = .float .f64 p | 6 => v = .pointer (some ⟨wr.heap.size, 0, none⟩) | 7 => v = .pointer (some ⟨wr.heap.size, 0, none⟩) | 8 => v = .float .f64 R.r2 | 9 => ∃ p, isF p (oF .mul (oF .mul (bitsK a.sm) P) (bitsK R.r2)) ∧ v = .float .f64 p | 10 => ∃ p, isF p (oF .add (bitsK a.sx) (oF .mul (oF .mul (bitsK a.sm) P) (bitsK R.r2))) ∧ v = .float .f64 p | 11 => v = .pointer (some ⟨w.heap.size, 0, none⟩) | 12 => v = .pointer (some ⟨w.heap.size, 2, none⟩) | 13 => v = .pointer (some ⟨w.heap.size, 2, none⟩) | _ => False) (put1 (w.heap.size) 2) ?A_r0011 (by kernel_rfl) (by kernel_rfl) (by kernel_rfl) (by decide) (by decide) ?hA_r0011 ?hst_r0011 ?hq_r0011 ?ht_r0011
            case hA_r0011 =>
              intro s
              simp only [putL, dstO, Act.put, List.getElem?_toArray, List.getElem?_cons_zero, List.getElem?_cons_succ, Option.bind_some, List.setIfInBounds_toArray, List.set_cons_zero, List.set_cons_succ, if_true]
              all_goals exact rfl
            case hst_r0011 =>
              intro o ho s hs W hb K hK
              cases ho
              have v0 := keep hb (hT.1 2 _ rfl); rw [Nat.zero_add] at v0; have v1 := (bel_there hT.2 hb 2 (by decide)).2; rw [Nat.zero_add] at v1
              have e13 : s 13 = _ := hs 13 (by decide) (by kernel_rfl)
              obtain ⟨p10, h10, e10⟩ := hs 10 (by decide) (by kernel_rfl)
              simp only [e13, e10] at hK ⊢
              clear hs
              go_simp
              exact hK.out
            case hq_r0011 =>
              intro i o hi hne ho s hs W hb hbf K hK
              have q1 := run_mul Try.prog; have q2 := run_add Try.prog; have ug := once_keep1 hb (hg 0 _ rfl) (.inl (by simp only; omega)); rw [Nat.zero_add] at ug
              rcases (show i = 0 ∨ i = 1 ∨ i = 2 ∨ i = 3 ∨ i = 4 ∨ i = 5 ∨ i = 6 ∨ i = 7 ∨ i = 8 ∨ i = 9 ∨ i = 10 ∨ i = 11 ∨ i = 12 ∨ i = 13 ∨ i = 14 by omega) with rfl | rfl | rfl | rfl | rfl | rfl | rfl | rfl | rfl | rfl | rfl | rfl | rfl | rfl | rfl
              · cases ho
                simp only [Act.put, List.setIfInBounds_toArray, List.set_cons_zero, List.set_cons_succ] at hK
                clear hs hne hbf
                go_simp
                all_goals first | with_reducible exact hK.out _ _ rfl (bl_refl _) | exact hK.out _ _ rfl (bl_refl _)
              · cases ho
                have e0 : s 0 = _ := hs 0 (by decide) (by decide) (by kernel_rfl)
                simp only [e0] at hK ⊢
                simp only [Act.put, List.setIfInBounds_toArray, List.set_cons_zero, List.set_cons_succ] at hK
                clear hs hne hbf
                go_simp
                all_goals first | with_reducible exact hK.out _ _ rfl (bl_refl _) | exact hK.out _ _ rfl (bl_refl _)
              · cases ho
                have e1 : s 1 = _ := hs 1 (by decide) (by decide) (by kernel_rfl)
                simp only [e1] at hK ⊢
                simp only [Act.put, List.setIfInBounds_toArray, List.set_cons_zero, List.set_cons_succ] at hK
                clear hs hne hbf
                go_simp
                all_goals first | with_reducible exact hK.out _ _ rfl (bl_refl _) | exact hK.out _ _ rfl (bl_refl _)
              · cases ho
                have e2 : s 2 = _ := hs 2 (by decide) (by decide) (by kernel_rfl)
                simp only [e2] at hK ⊢
                simp only [Act.put, List.setIfInBounds_toArray, List.set_cons_zero, List.set_cons_succ] at hK
                clear hs hne hbf
                go_simp
                all_goals first | with_reducible exact hK.out _ _ rfl (bl_refl _) | exact hK.out _ _ rfl (bl_refl _)
              · cases ho
                have hB2 := hbf (by kernel_rfl); have u4 := keep hB2 (hT.1 2 _ rfl); rw [Nat.zero_add] at u4
                have e3 : s 3 = _ := hs 3 (by decide) (by decide) (by kernel_rfl)
                simp only [e3] at hK ⊢
                simp only [Act.put, List.setIfInBounds_toArray, List.set_cons_zero, List.set_cons_succ] at hK
                clear hs hne hbf
                go_simp
                all_goals first | with_reducible exact hK.out _ _ rfl (bl_refl _) | exact hK.out _ _ rfl (bl_refl _)
              · cases ho
                simp only [Act.put, List.setIfInBounds_toArray, List.set_cons_zero, List.set_cons_succ] at hK
                clear hs hne hbf
                go_simp
                all_goals first | with_reducible exact hK.out _ _ ⟨_, hF _, rfl⟩ (bl_refl _) | exact hK.out _ _ ⟨_, hF _, rfl⟩ (bl_refl _) | with_reducible exact hK.out _ _ rfl (bl_refl _) | exact hK.out _ _ rfl (bl_refl _)
              · cases ho
                simp only [Act.put, List.setIfInBounds_toArray, List.set_cons_zero, List.set_cons_succ] at hK
                clear hs hne hbf
                go_simp
                all_goals first | with_reducible exact hK.out _ _ rfl (bl_refl _) | exact hK.out _ _ rfl (bl_refl _)
              · cases ho
                have e6 : s 6 = _ := hs 6 (by decide) (by decide) (by kernel_rfl)
                simp only [e6] at hK ⊢
                simp only [Act.put, List.setIfInBounds_toArray, List.set_cons_zero, List.set_cons_succ] at hK
                clear hs hne hbf
                go_simp
                all_goals first | with_reducible exact hK.out _ _ rfl (bl_refl _) | exact hK.out _ _ rfl (bl_refl _)
              · cases ho
                have e7 : s 7 = _ := hs 7 (by decide) (by decide) (by kernel_rfl)
                simp only [e7] at hK ⊢
                simp only [Act.put, List.setIfInBounds_toArray, List.set_cons_zero, List.set_cons_succ] at hK
                clear hs hne hbf
                go_simp
                all_goals first | with_reducible exact hK.out _ _ rfl (bl_refl _) | exact hK.out _ _ rfl (bl_refl _)
              · cases ho
                obtain ⟨p5, h5, e5⟩ := hs 5 (by decide) (by decide) (by kernel_rfl)
                have e8 : s 8 = _ := hs 8 (by decide) (by decide) (by kernel_rfl)
                simp only [e5, e8] at hK ⊢
                simp only [Act.put, List.setIfInBounds_toArray, List.set_cons_zero, List.set_cons_succ] at hK
                clear hs hne hbf
                go_simp
                all_goals first | with_reducible exact hK.out _ _ ⟨_, o_is _ h5 (isF_r o2), rfl⟩ (by first | exact bl_refl _ | exact bl_drewN (bl_refl _) _ | exact bl_drew (bl_refl _)) | exact hK.out _ _ ⟨_, o_is _ h5 (isF_r o2), rfl⟩ (by first | exact bl_refl _ | exact bl_drewN (bl_refl _) _ | exact bl_drew (bl_refl _)) | with_reducible exact hK.out _ _ rfl (bl_refl _) | exact hK.out _ _ rfl (bl_refl _)
              · cases ho
                have e4 : s 4 = _ := hs 4 (by decide) (by decide) (by kernel_rfl)
                obtain ⟨p9, h9, e9⟩ := hs 9 (by decide) (by decide) (by kernel_rfl)
                simp only [e4, e9] at hK ⊢
                simp only [Act.put, List.setIfInBounds_toArray, List.set_cons_zero, List.set_cons_succ] at hK
                clear hs hne hbf
                go_simp
                all_goals first | with_reducible exact hK.out _ _ ⟨_, o_is _ hfx h9, rfl⟩ (by first | exact bl_refl _ | exact bl_drewN (bl_refl _) _ | exact bl_drew (bl_refl _)) | exact hK.out _ _ ⟨_, o_is _ hfx h9, rfl⟩ (by first | exact bl_refl _ | exact bl_drewN (bl_refl _) _ | exact bl_drew (bl_refl _)) | with_reducible exact hK.out _ _ rfl (bl_refl _) | exact hK.out _ _ rfl (bl_refl _)
              · cases ho
                have e0 : s 0 = _ := hs 0 (by decide) (by decide) (by kernel_rfl)
                simp only [e0] at hK ⊢
                simp only [Act.put, List.setIfInBounds_toArray, List.set_cons_zero, List.set_cons_succ] at hK
                clear hs hne hbf
                go_simp
                all_goals first | with_reducible exact hK.out _ _ rfl (bl_refl _) | exact hK.out _ _ rfl (bl_refl _)
              · cases ho
                have e11 : s 11 = _ := hs 11 (by decide) (by decide) (by kernel_rfl)
                simp only [e11] at hK ⊢
                simp only [Act.put, List.setIfInBounds_toArray, List.set_cons_zero, List.set_cons_succ] at hK
                clear hs hne hbf
                go_simp
                all_goals first | with_reducible exact hK.out _ _ rfl (bl_refl _) | exact hK.out _ _ rfl (bl_refl _)
              · cases ho
                have e12 : s 12 = _ := hs 12 (by decide) (by decide) (by kernel_rfl)
                simp only [e12] at hK ⊢
                simp only [Act.put, List.setIfInBounds_toArray, List.set_cons_zero, List.set_cons_succ] at hK
                clear hs hne hbf
                go_simp
                all_goals first | with_reducible exact hK.out _ _ rfl (bl_refl _) | exact hK.out _ _ rfl (bl_refl _)
              · exact absurd rfl hne
            case ht_r0011 =>
              intro s hs W0 W hb0 hb
              have e0 : s 0 = _ := hs 0 (by decide) (by decide)
              have e1 : s 1 = _ := hs 1 (by decide) (by decide)
              have e2 : s 2 = _ := hs 2 (by decide) (by decide)
              have e3 : s 3 = _ := hs 3 (by decide) (by decide)
              have e4 : s 4 = _ := hs 4 (by decide) (by decide)
              obtain ⟨p5, h5, e5⟩ := hs 5 (by decide) (by decide)
              have e6 : s 6 = _ := hs 6 (by decide) (by decide)
              have e7 : s 7 = _ := hs 7 (by decide) (by decide)
              have e8 : s 8 = _ := hs 8 (by decide) (by decide)
              obtain ⟨p9, h9, e9⟩ := hs 9 (by decide) (by decide)
              obtain ⟨p10, h10, e10⟩ := hs 10 (by decide) (by decide)
              have e11 : s 11 = _ := hs 11 (by decide) (by decide)
              have e12 : s 12 = _ := hs 12 (by decide) (by decide)
              have e13 : s 13 = _ := hs 13 (by decide) (by decide)
              simp only [e0, e1, e2, e3, e4, e5, e6, e7, e8, e9, e10, e11, e12, e13]
              rw [e10] at hb
              clear hs e0 e1 e2 e3 e4 e5 e6 e7 e8 e9 e10 e11 e12 e13
              have hR9 : Rd w W wr.heap.size a b p10 fy fs gx2 gy2 gs2 R.r2 R.r3 R.r6 := Rd.bel (Rd.put2 (Rd.bel (show Rd w cur wr.heap.size a b fx fy fs gx2 gy2 gs2 R.r2 R.r3 R.r6 from ⟨hB9, hT, hg, hU, hz, hgz⟩) hb0) hG) hb
              clear hb0 hb hB9 hT hg hU hz hgz cur W0
              have hn0 := h10
              generalize p10 = v0 at hn0 hR9
              obtain ⟨hB9, hT, hg, hU, hz, hgz⟩ := hR9
              have ki : W.cell? ⟨w.heap.size, 1, none⟩ = some (.float .f64 a.si) := hT.1 1 _ rfl
              go_wp2
              refine at_world (fun W => Rd w W wr.heap.size a b v0 fy fs gx2 gy2 gs2 R.r2 R.r3 R.r6) (Rd.bel ⟨hB9, hT, hg, hU, hz, hgz⟩ (by repeat (first | exact bl_refl _ | assumption | apply bl_drewN | apply bl_drew | apply bl_alloc | refine bl_set ?_ (by simp <;> omega) | refine bl_trans ?_ (by assumption)))) ?_
              clear hT hU hz ki hg hgz hB9
              rintro cur ⟨hB9, hT, hg, hU, hz, hgz⟩
              refine wp_region_ret2 15 14 10 rfl (fun i v => match i with | 0 => v = .pointer (some ⟨w.heap.size, 0, none⟩) | 1 => v = .pointer (some ⟨w.heap.size, 0, none⟩) | 2 => v = .pointer (some ⟨w.heap.size, 2, none⟩) | 3 => v = .pointer (some ⟨w.heap.size, 3, none⟩) | 4 => v = .float .f64 fy | 5 => ∃ p, isF p (oF .mul (bitsK a.sm) P) ∧ v = .float .f64 p | 6 => v = .pointer (some ⟨wr.heap.size, 0, none⟩) | 7 => v = .pointer (some ⟨wr.heap.size, 1, none⟩) | 8 => v = .float .f64 R.r3 | 9 => ∃ p, isF p (oF .mul (oF .mul (bitsK a.sm) P) (bitsK R.r3)) ∧ v = .float .f64 p | 10 => ∃ p, isF p (oF .add (bitsK a.sy) (oF .mul (oF .mul (bitsK a.sm) P) (bitsK R.r3))) ∧ v = .float .f64 p | 11 => v = .pointer (some ⟨w.heap.size, 0, none⟩) | 12 => v = .pointer (some ⟨w.heap.size, 2, none⟩) | 13 => v = .pointer (some ⟨w.heap.size, 3, none⟩) | _ => False) (put1 (w.heap.size) 3) ?A_r0111 (by kernel_rfl) (by kernel_rfl) (by kernel_rfl) (by decide) (by decide) ?hA_r0111 ?hst_r0111 ?hq_r0111 ?ht_r0111
              case hA_r0111 =>
                intro s
                simp only [putL, dstO, Act.put, List.getElem?_toArray, List.getElem?_cons_zero, List.getElem?_cons_succ, Option.bind_some, List.setIfInBounds_toArray, List.set_cons_zero, List.set_cons_succ, if_true]
                all_goals exact rfl
              case hst_r0111 =>
                intro o ho s hs W hb K hK
                cases ho
                have v0 := keep hb (hT.1 3 _ rfl); rw [Nat.zero_add] at v0; have v1 := (bel_there hT.2 hb 3 (by decide)).2; rw [Nat.zero_add] at v1
                have e13 : s 13 = _ := hs 13 (by decide) (by kernel_rfl)
                obtain ⟨p10, h10, e10⟩ := hs 10 (by decide) (by kernel_rfl)
                simp only [e13, e10] at hK ⊢
                clear hs
                go_simp
                exact hK.out
              case hq_r0111 =>
                intro i o hi hne ho s hs W hb hbf K hK
                have q1 := run_mul Try.prog; have q2 := run_add Try.prog; have ug := once_keep1 hb (hg 1 _ rfl) (.inl (by simp only; omega)); rw [Nat.zero_add] at ug
                rcases (show i = 0 ∨ i = 1 ∨ i = 2 ∨ i = 3 ∨ i = 4 ∨ i = 5 ∨ i = 6 ∨ i = 7 ∨ i = 8 ∨ i = 9 ∨ i = 10 ∨ i = 11 ∨ i = 12 ∨ i = 13 ∨ i = 14 by omega) with rfl | rfl | rfl | rfl | rfl | rfl | rfl | rfl | rfl | rfl | rfl | rfl | rfl | rfl | rfl
                · cases ho
                  simp only [Act.put, List.setIfInBounds_toArray, List.set_cons_zero, List.set_cons_succ] at hK
                  clear hs hne hbf
                  go_simp
                  all_goals first | with_reducible exact hK.out _ _ rfl (bl_refl _) | exact hK.out _ _ rfl (bl_refl _)
                · cases ho
                  have e0 : s 0 = _ := hs 0 (by decide) (by decide) (by kernel_rfl)
                  simp only [e0] at hK ⊢
                  simp only [Act.put, List.setIfInBounds_toArray, List.set_cons_zero, List.set_cons_succ] at hK
                  clear hs hne hbf
                  go_simp
                  all_goals first | with_reducible exact hK.out _ _ rfl (bl_refl _) | exact hK.out _ _ rfl (bl_refl _)
                · cases ho
                  have e1 : s 1 = _ := hs 1 (by decide) (by decide) (by kernel_rfl)
                  simp only [e1] at hK ⊢
                  simp only [Act.put, List.setIfInBounds_toArray, List.set_cons_zero, List.set_cons_succ] at hK
                  clear hs hne hbf
                  go_simp
                  all_goals first | with_reducible exact hK.out _ _ rfl (bl_refl _) | exact hK.out _ _ rfl (bl_refl _)
                · cases ho
                  have e2 : s 2 = _ := hs 2 (by decide) (by decide) (by kernel_rfl)
                  simp only [e2] at hK ⊢
                  simp only [Act.put, List.setIfInBounds_toArray, List.set_cons_zero, List.set_cons_succ] at hK
                  clear hs hne hbf
                  go_simp
                  all_goals first | with_reducible exact hK.out _ _ rfl (bl_refl _) | exact hK.out _ _ rfl (bl_refl _)
                · cases ho
                  have hB2 := hbf (by kernel_rfl); have u4 := keep hB2 (hT.1 3 _ rfl); rw [Nat.zero_add] at u4
                  have e3 : s 3 = _ := hs 3 (by decide) (by decide) (by kernel_rfl)
                  simp only [e3] at hK ⊢
                  simp only [Act.put, List.setIfInBounds_toArray, List.set_cons_zero, List.set_cons_succ] at hK
                  clear hs hne hbf
                  go_simp
                  all_goals first | with_reducible exact hK.out _ _ rfl (bl_refl _) | exact hK.out _ _ rfl (bl_refl _)
                · cases ho
                  simp only [Act.put, List.setIfInBounds_toArray, List.set_cons_zero, List.set_cons_succ] at hK
                  clear hs hne hbf
                  go_simp
                  all_goals first | with_reducible exact hK.out _ _ ⟨_, hF _, rfl⟩ (bl_refl _) | exact hK.out _ _ ⟨_, hF _, rfl⟩ (bl_refl _) | with_reducible exact hK.out _ _ rfl (bl_refl _) | exact hK.out _ _ rfl (bl_refl _)
                · cases ho
                  simp only [Act.put, List.setIfInBounds_toArray, List.set_cons_zero, List.set_cons_succ] at hK
                  clear hs hne hbf
                  go_simp
                  all_goals first | with_reducible exact hK.out _ _ rfl (bl_refl _) | exact hK.out _ _ rfl (bl_refl _)
                · cases ho
                  have e6 : s 6 = _ := hs 6 (by decide) (by decide) (by kernel_rfl)
                  simp only [e6] at hK ⊢
                  simp only [Act.put, List.setIfInBounds_toArray, List.set_cons_zero, List.set_cons_succ] at hK
                  clear hs hne hbf
                  go_simp
                  all_goals first | with_reducible exact hK.out _ _ rfl (bl_refl _) | exact hK.out _ _ rfl (bl_refl _)
                · cases ho
                  have e7 : s 7 = _ := hs 7 (by decide) (by decide) (by kernel_rfl)
                  simp only [e7] at hK ⊢
                  simp only [Act.put, List.setIfInBounds_toArray, List.set_cons_zero, List.set_cons_succ] at hK
                  clear hs hne hbf
                  go_simp
                  all_goals first | with_reducible exact hK.out _ _ rfl (bl_refl _) | exact hK.out _ _ rfl (bl_refl _)
                · cases ho
                  obtain ⟨p5, h5, e5⟩ := hs 5 (by decide) (by decide) (by kernel_rfl)
                  have e8 : s 8 = _ := hs 8 (by decide) (by decide) (by kernel_rfl)
                  simp only [e5, e8] at hK ⊢
                  simp only [Act.put, List.setIfInBounds_toArray, List.set_cons_zero, List.set_cons_succ] at hK
                  clear hs hne hbf
                  go_simp
                  all_goals first | with_reducible exact hK.out _ _ ⟨_, o_is _ h5 (isF_r o3), rfl⟩ (by first | exact bl_refl _ | exact bl_drewN (bl_refl _) _ | exact bl_drew (bl_refl _)) | exact hK.out _ _ ⟨_, o_is _ h5 (isF_r o3), rfl⟩ (by first | exact bl_refl _ | exact bl_drewN (bl_refl _) _ | exact bl_drew (bl_refl _)) | with_reducible exact hK.out _ _ rfl (bl_refl _) | exact hK.out _ _ rfl (bl_refl _)
                · cases ho
                  have e4 : s 4 = _ := hs 4 (by decide) (by decide) (by kernel_rfl)
                  obtain ⟨p9, h9, e9⟩ := hs 9 (by decide) (by decide) (by kernel_rfl)
                  simp only [e4, e9] at hK ⊢
                  simp only [Act.put, List.setIfInBounds_toArray, List.set_cons_zero, List.set_cons_succ] at hK
                  clear hs hne hbf
                  go_simp
                  all_goals first | with_reducible exact hK.out _ _ ⟨_, o_is _ hfy h9, rfl⟩ (by first | exact bl_refl _ | exact bl_drewN (bl_refl _) _ | exact bl_drew (bl_refl _)) | exact hK.out _ _ ⟨_, o_is _ hfy h9, rfl⟩ (by first | exact bl_refl _ | exact bl_drewN (bl_refl _) _ | exact bl_drew (bl_refl _)) | with_reducible exact hK.out _ _ rfl (bl_refl _) | exact hK.out _ _ rfl (bl_refl _)
                · cases ho
                  have e0 : s 0 = _ := hs 0 (by decide) (by decide) (by kernel_rfl)
                  simp only [e0] at hK ⊢
                  simp only [Act.put, List.setIfInBounds_toArray, List.set_cons_zero, List.set_cons_succ] at hK
                  clear hs hne hbf
                  go_simp
                  all_goals first | with_reducible exact hK.out _ _ rfl (bl_refl _) | exact hK.out _ _ rfl (bl_refl _)
                · cases ho
                  have e11 : s 11 = _ := hs 11 (by decide) (by decide) (by kernel_rfl)
                  simp only [e11] at hK ⊢
                  simp only [Act.put, List.setIfInBounds_toArray, List.set_cons_zero, List.set_cons_succ] at hK
                  clear hs hne hbf
                  go_simp
                  all_goals first | with_reducible exact hK.out _ _ rfl (bl_refl _) | exact hK.out _ _ rfl (bl_refl _)
                · cases ho
                  have e12 : s 12 = _ := hs 12 (by decide) (by decide) (by kernel_rfl)
                  simp only [e12] at hK ⊢
                  simp only [Act.put, List.setIfInBounds_toArray, List.set_cons_zero, List.set_cons_succ] at hK
                  clear hs hne hbf
                  go_simp
                  all_goals first | with_reducible exact hK.out _ _ rfl (bl_refl _) | exact hK.out _ _ rfl (bl_refl _)
                · exact absurd rfl hne
              case ht_r0111 =>
                intro s hs W0 W hb0 hb
                have e0 : s 0 = _ := hs 0 (by decide) (by decide)
                have e1 : s 1 = _ := hs 1 (by decide) (by decide)
                have e2 : s 2 = _ := hs 2 (by decide) (by decide)
                have e3 : s 3 = _ := hs 3 (by decide) (by decide)
                have e4 : s 4 = _ := hs 4 (by decide) (by decide)
                obtain ⟨p5, h5, e5⟩ := hs 5 (by decide) (by decide)
                have e6 : s 6 = _ := hs 6 (by decide) (by decide)
                have e7 : s 7 = _ := hs 7 (by decide) (by decide)
                have e8 : s 8 = _ := hs 8 (by decide) (by decide)
                obtain ⟨p9, h9, e9⟩ := hs 9 (by decide) (by decide)
                obtain ⟨p10, h10, e10⟩ := hs 10 (by decide) (by decide)
                have e11 : s 11 = _ := hs 11 (by decide) (by decide)
                have e12 : s 12 = _ := hs 12 (by decide) (by decide)
                have e13 : s 13 = _ := hs 13 (by decide) (by decide)
                simp only [e0, e1, e2, e3, e4, e5, e6, e7, e8, e9, e10, e11, e12, e13]
                rw [e10] at hb
                clear hs e0 e1 e2 e3 e4 e5 e6 e7 e8 e9 e10 e11 e12 e13
                have hR9 : Rd w W wr.heap.size a b v0 p10 fs gx2 gy2 gs2 R.r2 R.r3 R.r6 := Rd.bel (Rd.put3 (Rd.bel (show Rd w cur wr.heap.size a b v0 fy fs gx2 gy2 gs2 R.r2 R.r3 R.r6 from ⟨hB9, hT, hg, hU, hz, hgz⟩) hb0) hG) hb
                clear hb0 hb hB9 hT hg hU hz hgz cur W0
                have hn1 := h10
                generalize p10 = v1 at hn1 hR9
                obtain ⟨hB9, hT, hg, hU, hz, hgz⟩ := hR9
                have ki : W.cell? ⟨w.heap.size, 1, none⟩ = some (.float .f64 a.si) := hT.1 1 _ rfl
                go_wp2
                refine at_world (fun W => Rd w W wr.heap.size a b v0 v1 fs gx2 gy2 gs2 R.r2 R.r3 R.r6) (Rd.bel ⟨hB9, hT, hg, hU, hz, hgz⟩ (by repeat (first | exact bl_refl _ | assumption | apply bl_drewN | apply bl_drew | apply bl_alloc | refine bl_set ?_ (by simp <;> omega) | refine bl_trans ?_ (by assumption)))) ?_
                clear hT hU hz ki hg hgz hB9
                rintro cur ⟨hB9, hT, hg, hU, hz, hgz⟩
                refine wp_region_ret2 17 16 13 rfl (fun i v => match i with | 0 => v = .pointer (some ⟨w.heap.size, 0, none⟩) | 1 => v = .pointer (some ⟨w.heap.size, 0, none⟩) | 2 => v = .pointer (some ⟨w.heap.size, 4, none⟩) | 3 => v = .float .f64 fs | 4 => v = .pointer (some ⟨w.heap.size, 0, none⟩) | 5 => v = .pointer (some ⟨w.heap.size, 0, none⟩) | 6 => v = .pointer (some ⟨w.heap.size, 1, none⟩) | 7 => v = .float .f64 a.si | 8 => v = .float .f64 p | 9 => v = .pointer (some ⟨wr.heap.size, 2, none⟩) | 10 => v = .float .f64 R.r6 | 11 => ∃ p, isF p (oF .mul P (bitsK R.r6)) ∧ v = .float .f64 p | 12 => ∃ p, isF p (oF .mul (bitsK a.si) (oF .mul P (bitsK R.r6))) ∧ v = .float .f64 p | 13 => ∃ p, isF p (oF .add (bitsK a.ss) (oF .mul (bitsK a.si) (oF .mul P (bitsK R.r6)))) ∧ v = .float .f64 p | 14 => v = .pointer (some ⟨w.heap.size, 0, none⟩) | 15 => v = .pointer (some ⟨w.heap.size, 4, none⟩) | _ => False) (put1 (w.heap.size) 4) ?A_r0211 (by kernel_rfl) (by kernel_rfl) (by kernel_rfl) (by decide) (by decide) ?hA_r0211 ?hst_r0211 ?hq_r0211 ?ht_r0211
                case hA_r0211 =>
                  intro s
                  simp only [putL, dstO, Act.put, List.getElem?_toArray, List.getElem?_cons_zero, List.getElem?_cons_succ, Option.bind_some, List.setIfInBounds_toArray, List.set_cons_zero, List.set_cons_succ, if_true]
                  all_goals exact rfl
                case hst_r0211 =>
                  intro o ho s hs W hb K hK
                  cases ho
                  have v0 := keep hb (hT.1 4 _ rfl); rw [Nat.zero_add] at v0; have v1 := (bel_there hT.2 hb 4 (by decide)).2; rw [Nat.zero_add] at v1
                  have e15 : s 15 = _ := hs 15 (by decide) (by kernel_rfl)
                  obtain ⟨p13, h13, e13⟩ := hs 13 (by decide) (by kernel_rfl)
                  simp only [e15, e13] at hK ⊢
                  clear hs
                  go_simp
                  exact hK.out
                case hq_r0211 =>
                  intro i o hi hne ho s hs W hb hbf K hK
                  have q1 := run_mul Try.prog; have q2 := run_add Try.prog; have ug := once_keep1 hb (hg 2 _ rfl) (.inl (by simp only; omega)); rw [Nat.zero_add] at ug; have ui := once_keep1 hb (hT.1 1 _ rfl) (.inr (by simp only; omega)); rw [Nat.zero_add] at ui
                  rcases (show i = 0 ∨ i = 1 ∨ i = 2 ∨ i = 3 ∨ i = 4 ∨ i = 5 ∨ i = 6 ∨ i = 7 ∨ i = 8 ∨ i = 9 ∨ i = 10 ∨ i = 11 ∨ i = 12 ∨ i = 13 ∨ i = 14 ∨ i = 15 ∨ i = 16 by omega) with rfl | rfl | rfl | rfl | rfl | rfl | rfl | rfl | rfl | rfl | rfl | rfl | rfl | rfl | rfl | rfl | rfl
                  · cases ho
                    simp only [Act.put, List.setIfInBounds_toArray, List.set_cons_zero, List.set_cons_succ] at hK
                    clear hs hne hbf
                    go_simp
                    all_goals first | with_reducible exact hK.out _ _ rfl (bl_refl _) | exact hK.out _ _ rfl (bl_refl _)
                  · cases ho
                    have e0 : s 0 = _ := hs 0 (by decide) (by decide) (by kernel_rfl)
                    simp only [e0] at hK ⊢
                    simp only [Act.put, List.setIfInBounds_toArray, List.set_cons_zero, List.set_cons_succ] at hK
                    clear hs hne hbf
                    go_simp
                    all_goals first | with_reducible exact hK.out _ _ rfl (bl_refl _) | exact hK.out _ _ rfl (bl_refl _)
                  · cases ho
                    have e1 : s 1 = _ := hs 1 (by decide) (by decide) (by kernel_rfl)
                    simp only [e1] at hK ⊢
                    simp only [Act.put, List.setIfInBounds_toArray, List.set_cons_zero, List.set_cons_succ] at hK
                    clear hs hne hbf
                    go_simp
                    all_goals first | with_reducible exact hK.out _ _ rfl (bl_refl _) | exact hK.out _ _ rfl (bl_refl _)
                  · cases ho
                    have hB2 := hbf (by kernel_rfl); have u4 := keep hB2 (hT.1 4 _ rfl); rw [Nat.zero_add] at u4
                    have e2 : s 2 = _ := hs 2 (by decide) (by decide) (by kernel_rfl)
                    simp only [e2] at hK ⊢
                    simp only [Act.put, List.setIfInBounds_toArray, List.set_cons_zero, List.set_cons_succ] at hK
                    clear hs hne hbf
                    go_simp
                    all_goals first | with_reducible exact hK.out _ _ rfl (bl_refl _) | exact hK.out _ _ rfl (bl_refl _)
                  · cases ho
                    simp only [Act.put, List.setIfInBounds_toArray, List.set_cons_zero, List.set_cons_succ] at hK
                    clear hs hne hbf
                    go_simp
                    all_goals first | with_reducible exact hK.out _ _ rfl (bl_refl _) | exact hK.out _ _ rfl (bl_refl _)
                  · cases ho
                    have e4 : s 4 = _ := hs 4 (by decide) (by decide) (by kernel_rfl)
                    simp only [e4] at hK ⊢
                    simp only [Act.put, List.setIfInBounds_toArray, List.set_cons_zero, List.set_cons_succ] at hK
                    clear hs hne hbf
                    go_simp
                    all_goals first | with_reducible exact hK.out _ _ rfl (bl_refl _) | exact hK.out _ _ rfl (bl_refl _)
                  · cases ho
                    have e5 : s 5 = _ := hs 5 (by decide) (by decide) (by kernel_rfl)
                    simp only [e5] at hK ⊢
                    simp only [Act.put, List.setIfInBounds_toArray, List.set_cons_zero, List.set_cons_succ] at hK
                    clear hs hne hbf
                    go_simp
                    all_goals first | with_reducible exact hK.out _ _ rfl (bl_refl _) | exact hK.out _ _ rfl (bl_refl _)
                  · cases ho
                    have e6 : s 6 = _ := hs 6 (by decide) (by decide) (by kernel_rfl)
                    simp only [e6] at hK ⊢
                    simp only [Act.put, List.setIfInBounds_toArray, List.set_cons_zero, List.set_cons_succ] at hK
                    clear hs hne hbf
                    go_simp
                    all_goals first | with_reducible exact hK.out _ _ rfl (bl_refl _) | exact hK.out _ _ rfl (bl_refl _)
                  · cases ho
                    simp only [Act.put, List.setIfInBounds_toArray, List.set_cons_zero, List.set_cons_succ] at hK
                    clear hs hne hbf
                    go_simp
                    all_goals first | with_reducible exact hK.out _ _ rfl (bl_refl _) | exact hK.out _ _ rfl (bl_refl _)
                  · cases ho
                    simp only [Act.put, List.setIfInBounds_toArray, List.set_cons_zero, List.set_cons_succ] at hK
                    clear hs hne hbf
                    go_simp
                    all_goals first | with_reducible exact hK.out _ _ rfl (bl_refl _) | exact hK.out _ _ rfl (bl_refl _)
                  · cases ho
                    have e9 : s 9 = _ := hs 9 (by decide) (by decide) (by kernel_rfl)
                    simp only [e9] at hK ⊢
                    simp only [Act.put, List.setIfInBounds_toArray, List.set_cons_zero, List.set_cons_succ] at hK
                    clear hs hne hbf
                    go_simp
                    all_goals first | with_reducible exact hK.out _ _ rfl (bl_refl _) | exact hK.out _ _ rfl (bl_refl _)
                  · cases ho
                    have e8 : s 8 = _ := hs 8 (by decide) (by decide) (by kernel_rfl)
                    have e10 : s 10 = _ := hs 10 (by decide) (by decide) (by kernel_rfl)
                    simp only [e8, e10] at hK ⊢
                    simp only [Act.put, List.setIfInBounds_toArray, List.set_cons_zero, List.set_cons_succ] at hK
                    clear hs hne hbf
                    go_simp
                    all_goals first | with_reducible exact hK.out _ _ ⟨_, o_is _ hP (isF_r o6), rfl⟩ (by first | exact bl_refl _ | exact bl_drewN (bl_refl _) _ | exact bl_drew (bl_refl _)) | exact hK.out _ _ ⟨_, o_is _ hP (isF_r o6), rfl⟩ (by first | exact bl_refl _ | exact bl_drewN (bl_refl _) _ | exact bl_drew (bl_refl _)) | with_reducible exact hK.out _ _ rfl (bl_refl _) | exact hK.out _ _ rfl (bl_refl _)
                  · cases ho
                    have e7 : s 7 = _ := hs 7 (by decide) (by decide) (by kernel_rfl)
                    obtain ⟨p11, h11, e11⟩ := hs 11 (by decide) (by decide) (by kernel_rfl)
                    simp only [e7, e11] at hK ⊢
                    simp only [Act.put, List.setIfInBounds_toArray, List.set_cons_zero, List.set_cons_succ] at hK
                    clear hs hne hbf
                    go_simp
                    all_goals first | with_reducible exact hK.out _ _ ⟨_, o_is _ (isF_r oai) h11, rfl⟩ (by first | exact bl_refl _ | exact bl_drewN (bl_refl _) _ | exact bl_drew (bl_refl _)) | exact hK.out _ _ ⟨_, o_is _ (isF_r oai) h11, rfl⟩ (by first | exact bl_refl _ | exact bl_drewN (bl_refl _) _ | exact bl_drew (bl_refl _)) | with_reducible exact hK.out _ _ rfl (bl_refl _) | exact hK.out _ _ rfl (bl_refl _)
                  · cases ho
                    have e3 : s 3 = _ := hs 3 (by decide) (by decide) (by kernel_rfl)
                    obtain ⟨p12, h12, e12⟩ := hs 12 (by decide) (by decide) (by kernel_rfl)
                    simp only [e3, e12] at hK ⊢
                    simp only [Act.put, List.setIfInBounds_toArray, List.set_cons_zero, List.set_cons_succ] at hK
                    clear hs hne hbf
                    go_simp
                    all_goals first | with_reducible exact hK.out _ _ ⟨_, o_is _ hfs h12, rfl⟩ (by first | exact bl_refl _ | exact bl_drewN (bl_refl _) _ | exact bl_drew (bl_refl _)) | exact hK.out _ _ ⟨_, o_is _ hfs h12, rfl⟩ (by first | exact bl_refl _ | exact bl_drewN (bl_refl _) _ | exact bl_drew (bl_refl _)) | with_reducible exact hK.out _ _ rfl (bl_refl _) | exact hK.out _ _ rfl (bl_refl _)
                  · cases ho
                    have e0 : s 0 = _ := hs 0 (by decide) (by decide) (by kernel_rfl)
                    simp only [e0] at hK ⊢
                    simp only [Act.put, List.setIfInBounds_toArray, List.set_cons_zero, List.set_cons_succ] at hK
                    clear hs hne hbf
                    go_simp
                    all_goals first | with_reducible exact hK.out _ _ rfl (bl_refl _) | exact hK.out _ _ rfl (bl_refl _)
                  · cases ho
                    have e14 : s 14 = _ := hs 14 (by decide) (by decide) (by kernel_rfl)
                    simp only [e14] at hK ⊢
                    simp only [Act.put, List.setIfInBounds_toArray, List.set_cons_zero, List.set_cons_succ] at hK
                    clear hs hne hbf
                    go_simp
                    all_goals first | with_reducible exact hK.out _ _ rfl (bl_refl _) | exact hK.out _ _ rfl (bl_refl _)
                  · exact absurd rfl hne
                case ht_r0211 =>
                  intro s hs W0 W hb0 hb
                  have e0 : s 0 = _ := hs 0 (by decide) (by decide)
                  have e1 : s 1 = _ := hs 1 (by decide) (by decide)
                  have e2 : s 2 = _ := hs 2 (by decide) (by decide)
                  have e3 : s 3 = _ := hs 3 (by decide) (by decide)
                  have e4 : s 4 = _ := hs 4 (by decide) (by decide)
                  have e5 : s 5 = _ := hs 5 (by decide) (by decide)
                  have e6 : s 6 = _ := hs 6 (by decide) (by decide)
                  have e7 : s 7 = _ := hs 7 (by decide) (by decide)
                  have e8 : s 8 = _ := hs 8 (by decide) (by decide)
                  have e9 : s 9 = _ := hs 9 (by decide) (by decide)
                  have e10 : s 10 = _ := hs 10 (by decide) (by decide)
                  obtain ⟨p11, h11, e11⟩ := hs 11 (by decide) (by decide)
                  obtain ⟨p12, h12, e12⟩ := hs 12 (by decide) (by decide)
                  obtain ⟨p13, h13, e13⟩ := hs 13 (by decide) (by decide)
                  have e14 : s 14 = _ := hs 14 (by decide) (by decide)
                  have e15 : s 15 = _ := hs 15 (by decide) (by decide)
                  simp only [e0, e1, e2, e3, e4, e5, e6, e7, e8, e9, e10, e11, e12, e13, e14, e15]
                  rw [e13] at hb
                  clear hs e0 e1 e2 e3 e4 e5 e6 e7 e8 e9 e10 e11 e12 e13 e14 e15
                  have hR9 : Rd w W wr.heap.size a b v0 v1 p13 gx2 gy2 gs2 R.r2 R.r3 R.r6 := Rd.bel (Rd.put4 (Rd.bel (show Rd w cur wr.heap.size a b v0 v1 fs gx2 gy2 gs2 R.r2 R.r3 R.r6 from ⟨hB9, hT, hg, hU, hz, hgz⟩) hb0) hG) hb
                  clear hb0 hb hB9 hT hg hU hz hgz cur W0
                  have hn2 := h13
                  generalize p13 = v2 at hn2 hR9
                  obtain ⟨hB9, hT, hg, hU, hz, hgz⟩ := hR9
                  have ki : W.cell? ⟨w.heap.size, 1, none⟩ = some (.float .f64 a.si) := hT.1 1 _ rfl
                  go_wp2
                  refine ⟨⟨0 + 1, by omega, by go_num, _, _, _, _, _, _, hB9, hT, hU, hz, puX_yes hm hn0, puX_yes hm hn1, puT_yes hi hn2, hgx2, hgy2, hgs2⟩, by simp [intOf] <;> omega⟩
      · simp only [Nat.one_ne_zero, if_false] at hfx hfy hfs
        simp only [Nat.le_refl, if_true] at hgx2 hgy2 hgs2
        cases hm : ltK .f64 0 b.sm
        · cases hi : ltK .f64 0 b.si
          · as_aux_lemma =>
            have qi : ∀ X : World, (Instr.index 135 (.agg #[.float .f64 R.r2, .float .f64 R.r3, .float .f64 R.r6, .float .f64 R.r4, .float .f64 R.r5, .float .f64 R.r7]) (.int .i64 1)).run Try.prog X = .ok (.agg #[.float .f64 R.r4, .float .f64 R.r5, .float .f64 R.r7]) X := fun X => by kernel_rfl
            have km : (wr.alloc (.cells #[.float .f64 R.r4, .float .f64 R.r5, .float .f64 R.r7] 134)).cell? ⟨w.heap.size, 5, none⟩ = some (.float .f64 b.sm) := up_alloc (hT.1 5 _ rfl)
            have ki : (wr.alloc (.cells #[.float .f64 R.r4, .float .f64 R.r5, .float .f64 R.r7] 134)).cell? ⟨w.heap.size, 6, none⟩ = some (.float .f64 b.si) := up_alloc (hT.1 6 _ rfl)
            go_wp2
            refine ⟨⟨1 + 1, by omega, by go_num, _, _, _, _, _, _, bl_trans hB (by repeat (first | exact bl_refl _ | assumption | apply bl_drewN | apply bl_drew | apply bl_alloc | refine bl_set ?_ (by simp <;> omega) | refine bl_trans ?_ (by assumption))), hT.bel (by repeat (first | exact bl_refl _ | assumption | apply bl_drewN | apply bl_drew | apply bl_alloc | refine bl_set ?_ (by simp <;> omega) | refine bl_trans ?_ (by assumption))), bel_there hU (by repeat (first | exact bl_refl _ | assumption | apply bl_drewN | apply bl_drew | apply bl_alloc | refine bl_set ?_ (by simp <;> omega) | refine bl_trans ?_ (by assumption))), by simp only [World.size_alloc] <;> omega, hfx, hfy, hfs, (pu_no hm hgx2).1, (pu_no hm hgy2).1, (pu_no hi hgs2).2⟩, by simp [intOf] <;> omega⟩
          · as_aux_lemma =>
            have qi : ∀ X : World, (Instr.index 135 (.agg #[.float .f64 R.r2, .float .f64 R.r3, .float .f64 R.r6, .float .f64 R.r4, .float .f64 R.r5, .float .f64 R.r7]) (.int .i64 1)).run Try.prog X = .ok (.agg #[.float .f64 R.r4, .float .f64 R.r5, .float .f64 R.r7]) X := fun X => by kernel_rfl
            have km : (wr.alloc (.cells #[.float .f64 R.r4, .float .f64 R.r5, .float .f64 R.r7] 134)).cell? ⟨w.heap.size, 5, none⟩ = some (.float .f64 b.sm) := up_alloc (hT.1 5 _ rfl)
            have ki : (wr.alloc (.cells #[.float .f64 R.r4, .float .f64 R.r5, .float .f64 R.r7] 134)).cell? ⟨w.heap.size, 6, none⟩ = some (.float .f64 b.si) := up_alloc (hT.1 6 _ rfl)
            go_wp2
            refine at_world (fun W => Rd w W wr.heap.size a b fx fy fs gx2 gy2 gs2 R.r4 R.r5 R.r7) (rd_start hB hT hU hz (by repeat (first | exact bl_refl _ | assumption | apply bl_drewN | apply bl_drew | apply bl_alloc | refine bl_set ?_ (by simp <;> omega) | refine bl_trans ?_ (by assumption)))) ?_
            clear hT hU hz km ki
            rintro cur ⟨hB9, hT, hg, hU, hz, hgz⟩
            refine wp_region_ret2 17 16 13 rfl (fun i v => match i with | 0 => v = .pointer (some ⟨w.heap.size, 5, none⟩) | 1 => v = .pointer (some ⟨w.heap.size, 5, none⟩) | 2 => v = .pointer (some ⟨w.heap.size, 9, none⟩) | 3 => v = .float .f64 gs2 | 4 => v = .pointer (some ⟨w.heap.size, 5, none⟩) | 5 => v = .pointer (some ⟨w.heap.size, 5, none⟩) | 6 => v = .pointer (some ⟨w.heap.size, 6, none⟩) | 7 => v = .float .f64 b.si | 8 => v = .float .f64 p | 9 => v = .pointer (some ⟨wr.heap.size, 2, none⟩) | 10 => v = .float .f64 R.r7 | 11 => ∃ p, isF p (oF .mul P (bitsK R.r7)) ∧ v = .float .f64 p | 12 => ∃ p, isF p (oF .mul (bitsK b.si) (oF .mul P (bitsK R.r7))) ∧ v = .float .f64 p | 13 => ∃ p, isF p (oF .add (bitsK b.ss) (oF .mul (bitsK b.si) (oF .mul P (bitsK R.r7)))) ∧ v = .float .f64 p | 14 => v = .pointer (some ⟨w.heap.size, 5, none⟩) | 15 => v = .pointer (some ⟨w.heap.size, 9, none⟩) | _ => False) (put1 (w.heap.size) 9) ?A_r1201 (by kernel_rfl) (by kernel_rfl) (by kernel_rfl) (by decide) (by decide) ?hA_r1201 ?hst_r1201 ?hq_r1201 ?ht_r1201
            case hA_r1201 =>
              intro s
              simp only [putL, dstO, Act.put, List.getElem?_toArray, List.getElem?_cons_zero, List.getElem?_cons_succ, Option.bind_some, List.setIfInBounds_toArray, List.set_cons_zero, List.set_cons_succ, if_true]
              all_goals exact rfl
            case hst_r1201 =>
              intro o ho s hs W hb K hK
              cases ho
              have v0 := keep hb (hT.1 9 _ rfl); rw [Nat.zero_add] at v0; have v1 := (bel_there hT.2 hb 9 (by decide)).2; rw [Nat.zero_add] at v1
              have e15 : s 15 = _ := hs 15 (by decide) (by kernel_rfl)
              obtain ⟨p13, h13, e13⟩ := hs 13 (by decide) (by kernel_rfl)
              simp only [e15, e13] at hK ⊢
              clear hs
              go_simp
              exact hK.out
            case hq_r1201 =>
              intro i o hi hne ho s hs W hb hbf K hK
              have q1 := run_mul Try.prog; have q2 := run_add Try.prog; have ug := once_keep1 hb (hg 2 _ rfl) (.inl (by simp only; omega)); rw [Nat.zero_add] at ug; have ui := once_keep1 hb (hT.1 6 _ rfl) (.inr (by simp only; omega)); rw [Nat.zero_add] at ui
              rcases (show i = 0 ∨ i = 1 ∨ i = 2 ∨ i = 3 ∨ i = 4 ∨ i = 5 ∨ i = 6 ∨ i = 7 ∨ i = 8 ∨ i = 9 ∨ i = 10 ∨ i = 11 ∨ i = 12 ∨ i = 13 ∨ i = 14 ∨ i = 15 ∨ i = 16 by omega) with rfl | rfl | rfl | rfl | rfl | rfl | rfl | rfl | rfl | rfl | rfl | rfl | rfl | rfl | rfl | rfl | rfl
              · cases ho
                simp only [Act.put, List.setIfInBounds_toArray, List.set_cons_zero, List.set_cons_succ] at hK
                clear hs hne hbf
                go_simp
                all_goals first | with_reducible exact hK.out _ _ rfl (bl_refl _) | exact hK.out _ _ rfl (bl_refl _)
              · cases ho
                have e0 : s 0 = _ := hs 0 (by decide) (by decide) (by kernel_rfl)
                simp only [e0] at hK ⊢
                simp only [Act.put, List.setIfInBounds_toArray, List.set_cons_zero, List.set_cons_succ] at hK
                clear hs hne hbf
                go_simp
                all_goals first | with_reducible exact hK.out _ _ rfl (bl_refl _) | exact hK.out _ _ rfl (bl_refl _)
              · cases ho
                have e1 : s 1 = _ := hs 1 (by decide) (by decide) (by kernel_rfl)
                simp only [e1] at hK ⊢
                simp only [Act.put, List.setIfInBounds_toArray, List.set_cons_zero, List.set_cons_succ] at hK
                clear hs hne hbf
                go_simp
                all_goals first | with_reducible exact hK.out _ _ rfl (bl_refl _) | exact hK.out _ _ rfl (bl_refl _)
              · cases ho
                have hB2 := hbf (by kernel_rfl); have u4 := keep hB2 (hT.1 9 _ rfl); rw [Nat.zero_add] at u4
                have e2 : s 2 = _ := hs 2 (by decide) (by decide) (by kernel_rfl)
                simp only [e2] at hK ⊢
                simp only [Act.put, List.setIfInBounds_toArray, List.set_cons_zero, List.set_cons_succ] at hK
                clear hs hne hbf
                go_simp
                all_goals first | with_reducible exact hK.out _ _ rfl (bl_refl _) | exact hK.out _ _ rfl (bl_refl _)
              · cases ho
                simp only [Act.put, List.setIfInBounds_toArray, List.set_cons_zero, List.set_cons_succ] at hK
                clear hs hne hbf
                go_simp
                all_goals first | with_reducible exact hK.out _ _ rfl (bl_refl _) | exact hK.out _ _ rfl (bl_refl _)
              · cases ho
                have e4 : s 4 = _ := hs 4 (by decide) (by decide) (by kernel_rfl)
                simp only [e4] at hK ⊢
                simp only [Act.put, List.setIfInBounds_toArray, List.set_cons_zero, List.set_cons_succ] at hK
                clear hs hne hbf
                go_simp
                all_goals first | with_reducible exact hK.out _ _ rfl (bl_refl _) | exact hK.out _ _ rfl (bl_refl _)
              · cases ho
                have e5 : s 5 = _ := hs 5 (by decide) (by decide) (by kernel_rfl)
                simp only [e5] at hK ⊢
                simp only [Act.put, List.setIfInBounds_toArray, List.set_cons_zero, List.set_cons_succ] at hK
                clear hs hne hbf
                go_simp
                all_goals first | with_reducible exact hK.out _ _ rfl (bl_refl _) | exact hK.out _ _ rfl (bl_refl _)
              · cases ho
                have e6 : s 6 = _ := hs 6 (by decide) (by decide) (by kernel_rfl)
                simp only [e6] at hK ⊢
                simp only [Act.put, List.setIfInBounds_toArray, List.set_cons_zero, List.set_cons_succ] at hK
                clear hs hne hbf
                go_simp
                all_goals first | with_reducible exact hK.out _ _ rfl (bl_refl _) | exact hK.out _ _ rfl (bl_refl _)
              · cases ho
                simp only [Act.put, List.setIfInBounds_toArray, List.set_cons_zero, List.set_cons_succ] at hK
                clear hs hne hbf
                go_simp
                all_goals first | with_reducible exact hK.out _ _ rfl (bl_refl _) | exact hK.out _ _ rfl (bl_refl _)
              · cases ho
                simp only [Act.put, List.setIfInBounds_toArray, List.set_cons_zero, List.set_cons_succ] at hK
                clear hs hne hbf
                go_simp
                all_goals first | with_reducible exact hK.out _ _ rfl (bl_refl _) | exact hK.out _ _ rfl (bl_refl _)
              · cases ho
                have e9 : s 9 = _ := hs 9 (by decide) (by decide) (by kernel_rfl)
                simp only [e9] at hK ⊢
                simp only [Act.put, List.setIfInBounds_toArray, List.set_cons_zero, List.set_cons_succ] at hK
                clear hs hne hbf
                go_simp
                all_goals first | with_reducible exact hK.out _ _ rfl (bl_refl _) | exact hK.out _ _ rfl (bl_refl _)
              · cases ho
                have e8 : s 8 = _ := hs 8 (by decide) (by decide) (by kernel_rfl)
                have e10 : s 10 = _ := hs 10 (by decide) (by decide) (by kernel_rfl)
                simp only [e8, e10] at hK ⊢
                simp only [Act.put, List.setIfInBounds_toArray, List.set_cons_zero, List.set_cons_succ] at hK
                clear hs hne hbf
                go_simp
                all_goals first | with_reducible exact hK.out _ _ ⟨_, o_is _ hP (isF_r o7), rfl⟩ (by first | exact bl_refl _ | exact bl_drewN (bl_refl _) _ | exact bl_drew (bl_refl _)) | exact hK.out _ _ ⟨_, o_is _ hP (isF_r o7), rfl⟩ (by first | exact bl_refl _ | exact bl_drewN (bl_refl _) _ | exact bl_drew (bl_refl _)) | with_reducible exact hK.out _ _ rfl (bl_refl _) | exact hK.out _ _ rfl (bl_refl _)
              · cases ho
                have e7 : s 7 = _ := hs 7 (by decide) (by decide) (by kernel_rfl)
                obtain ⟨p11, h11, e11⟩ := hs 11 (by decide) (by decide) (by kernel_rfl)
                simp only [e7, e11] at hK ⊢
                simp only [Act.put, List.setIfInBounds_toArray, List.set_cons_zero, List.set_cons_succ] at hK
                clear hs hne hbf
                go_simp
                all_goals first | with_reducible exact hK.out _ _ ⟨_, o_is _ (isF_r obi) h11, rfl⟩ (by first | exact bl_refl _ | exact bl_drewN (bl_refl _) _ | exact bl_drew (bl_refl _)) | exact hK.out _ _ ⟨_, o_is _ (isF_r obi) h11, rfl⟩ (by first | exact bl_refl _ | exact bl_drewN (bl_refl _) _ | exact bl_drew (bl_refl _)) | with_reducible exact hK.out _ _ rfl (bl_refl _) | exact hK.out _ _ rfl (bl_refl _)
              · cases ho
                have e3 : s 3 = _ := hs 3 (by decide) (by decide) (by kernel_rfl)
                obtain ⟨p12, h12, e12⟩ := hs 12 (by decide) (by decide) (by kernel_rfl)
                simp only [e3, e12] at hK ⊢
                simp only [Act.put, List.setIfInBounds_toArray, List.set_cons_zero, List.set_cons_succ] at hK
                clear hs hne hbf
                go_simp
                all_goals first | with_reducible exact hK.out _ _ ⟨_, o_is _ hgs2 h12, rfl⟩ (by first | exact bl_refl _ | exact bl_drewN (bl_refl _) _ | exact bl_drew (bl_refl _)) | exact hK.out _ _ ⟨_, o_is _ hgs2 h12, rfl⟩ (by first | exact bl_refl _ | exact bl_drewN (bl_refl _) _ | exact bl_drew (bl_refl _)) | with_reducible exact hK.out _ _ rfl (bl_refl _) | exact hK.out _ _ rfl (bl_refl _)
              · cases ho
                have e0 : s 0 = _ := hs 0 (by decide) (by decide) (by kernel_rfl)
                simp only [e0] at hK ⊢
                simp only [Act.put, List.setIfInBounds_toArray, List.set_cons_zero, List.set_cons_succ] at hK
                clear hs hne hbf
                go_simp
                all_goals first | with_reducible exact hK.out _ _ rfl (bl_refl _) | exact hK.out _ _ rfl (bl_refl _)
              · cases ho
                have e14 : s 14 = _ := hs 14 (by decide) (by decide) (by kernel_rfl)
                simp only [e14] at hK ⊢
                simp only [Act.put, List.setIfInBounds_toArray, List.set_cons_zero, List.set_cons_succ] at hK
                clear hs hne hbf
                go_simp
                all_goals first | with_reducible exact hK.out _ _ rfl (bl_refl _) | exact hK.out _ _ rfl (bl_refl _)
              · exact absurd rfl hne
            case ht_r1201 =>
              intro s hs W0 W hb0 hb
              have e0 : s 0 = _ := hs 0 (by decide) (by decide)
              have e1 : s 1 = _ := hs 1 (by decide) (by decide)
              have e2 : s 2 = _ := hs 2 (by decide) (by decide)
              have e3 : s 3 = _ := hs 3 (by decide) (by decide)
              have e4 : s 4 = _ := hs 4 (by decide) (by decide)
              have e5 : s 5 = _ := hs 5 (by decide) (by decide)
              have e6 : s 6 = _ := hs 6 (by decide) (by decide)
              have e7 : s 7 = _ := hs 7 (by decide) (by decide)
              have e8 : s 8 = _ := hs 8 (by decide) (by decide)
              have e9 : s 9 = _ := hs 9 (by decide) (by decide)
              have e10 : s 10 = _ := hs 10 (by decide) (by decide)
              obtain ⟨p11, h11, e11⟩ := hs 11 (by decide) (by decide)
              obtain ⟨p12, h12, e12⟩ := hs 12 (by decide) (by decide)
              obtain ⟨p13, h13, e13⟩ := hs 13 (by decide) (by decide)
              have e14 : s 14 = _ := hs 14 (by decide) (by decide)
              have e15 : s 15 = _ := hs 15 (by decide) (by decide)
              simp only [e0, e1, e2, e3, e4, e5, e6, e7, e8, e9, e10, e11, e12, e13, e14, e15]
              rw [e13] at hb
              clear hs e0 e1 e2 e3 e4 e5 e6 e7 e8 e9 e10 e11 e12 e13 e14 e15
              have hR9 : Rd w W wr.heap.size a b fx fy fs gx2 gy2 p13 R.r4 R.r5 R.r7 := Rd.bel (Rd.put9 (Rd.bel (show Rd w cur wr.heap.size a b fx fy fs gx2 gy2 gs2 R.r4 R.r5 R.r7 from ⟨hB9, hT, hg, hU, hz, hgz⟩) hb0) hG) hb
              clear hb0 hb hB9 hT hg hU hz hgz cur W0
              have hn2 := h13
              generalize p13 = v2 at hn2 hR9
              obtain ⟨hB9, hT, hg, hU, hz, hgz⟩ := hR9
              have ki : W.cell? ⟨w.heap.size, 6, none⟩ = some (.float .f64 b.si) := hT.1 6 _ rfl
              go_wp2
              refine ⟨⟨1 + 1, by omega, by go_num, _, _, _, _, _, _, hB9, hT, hU, hz, hfx, hfy, hfs, (pu_no hm hgx2).1, (pu_no hm hgy2).1, puT_yes hi hn2⟩, by simp [intOf] <;> omega⟩
        · have hF : ∀ W : World, isF (fv .mul .f64 b.sm p W) (oF .mul (bitsK b.sm) P) := fun W => o_is W (isF_r obm) hP
          cases hi : ltK .f64 0 b.si
          · as_aux_lemma =>
            have qi : ∀ X : World, (Instr.index 135 (.agg #[.float .f64 R.r2, .float .f64 R.r3, .float .f64 R.r6, .float .f64 R.r4, .float .f64 R.r5, .float .f64 R.r7]) (.int .i64 1)).run Try.prog X = .ok (.agg #[.float .f64 R.r4, .float .f64 R.r5, .float .f64 R.r7]) X := fun X => by kernel_rfl
            have km : (wr.alloc (.cells #[.float .f64 R.r4, .float .f64 R.r5, .float .f64 R.r7] 134)).cell? ⟨w.heap.size, 5, none⟩ = some (.float .f64 b.sm) := up_alloc (hT.1 5 _ rfl)
            have ki : (wr.alloc (.cells #[.float .f64 R.r4, .float .f64 R.r5, .float .f64 R.r7] 134)).cell? ⟨w.heap.size, 6, none⟩ = some (.float .f64 b.si) := up_alloc (hT.1 6 _ rfl)
            go_wp2
            refine at_world (fun W => Rd w W wr.heap.size a b fx fy fs gx2 gy2 gs2 R.r4 R.r5 R.r7) (rd_start hB hT hU hz (by repeat (first | exact bl_refl _ | assumption | apply bl_drewN | apply bl_drew | apply bl_alloc | refine bl_set ?_ (by simp <;> omega) | refine bl_trans ?_ (by assumption)))) ?_
            clear hT hU hz km ki
            rintro cur ⟨hB9, hT, hg, hU, hz, hgz⟩
            refine wp_region_ret2 15 14 10 rfl (fun i v => match i with | 0 => v = .pointer (some ⟨w.heap.size, 5, none⟩) | 1 => v = .pointer (some ⟨w.heap.size, 5, none⟩) | 2 => v = .pointer (some ⟨w.heap.size, 7, none⟩) | 3 => v = .pointer (some ⟨w.heap.size, 7, none⟩) | 4 => v = .float .f64 gx2 | 5 => ∃ p, isF p (oF .mul (bitsK b.sm) P) ∧ v = .float .f64 p | 6 => v = .pointer (some ⟨wr.heap.size, 0, none⟩) | 7 => v = .pointer (some ⟨wr.heap.size, 0, none⟩) | 8 => v = .float .f64 R.r4 | 9 => ∃ p, isF p (oF .mul (oF .mul (bitsK b.sm) P) (bitsK R.r4)) ∧ v = .float .f64 p | 10 => ∃ p, isF p (oF .add (bitsK b.sx) (oF .mul (oF .mul (bitsK b.sm) P) (bitsK R.r4))) ∧ v = .float .f64 p | 11 => v = .pointer (some ⟨w.heap.size, 5, none⟩) | 12 => v = .pointer (some ⟨w.heap.size, 7, none⟩) | 13 => v = .pointer (some ⟨w.heap.size, 7, none⟩) | _ => False) (put1 (w.heap.size) 7) ?A_r1010 (by kernel_rfl) (by kernel_rfl) (by kernel_rfl) (by decide) (by decide) ?hA_r1010 ?hst_r1010 ?hq_r1010 ?ht_r1010
            case hA_r1010 =>
              intro s
              simp only [putL, dstO, Act.put, List.getElem?_toArray, List.getElem?_cons_zero, List.getElem?_cons_succ, Option.bind_some, List.setIfInBounds_toArray, List.set_cons_zero, List.set_cons_succ, if_true]
              all_goals exact rfl
            case hst_r1010 =>
              intro o ho s hs W hb K hK
              cases ho
              have v0 := keep hb (hT.1 7 _ rfl); rw [Nat.zero_add] at v0; have v1 := (bel_there hT.2 hb 7 (by decide)).2; rw [Nat.zero_add] at v1
              have e13 : s 13 = _ := hs 13 (by decide) (by kernel_rfl)
              obtain ⟨p10, h10, e10⟩ := hs 10 (by decide) (by kernel_rfl)
              simp only [e13, e10] at hK ⊢
              clear hs
              go_simp
              exact hK.out
            case hq_r1010 =>
              intro i o hi hne ho s hs W hb hbf K hK
              have q1 := run_mul Try.prog; have q2 := run_add Try.prog; have ug := once_keep1 hb (hg 0 _ rfl) (.inl (by simp only; omega)); rw [Nat.zero_add] at ug
              rcases (show i = 0 ∨ i = 1 ∨ i = 2 ∨ i = 3 ∨ i = 4 ∨ i = 5 ∨ i = 6 ∨ i = 7 ∨ i = 8 ∨ i = 9 ∨ i = 10 ∨ i = 11 ∨ i = 12 ∨ i = 13 ∨ i = 14 by omega) with rfl | rfl | rfl | rfl | rfl | rfl | rfl | rfl | rfl | rfl | rfl | rfl | rfl | rfl | rfl
              · cases ho
                simp only [Act.put, List.setIfInBounds_toArray, List.set_cons_zero, List.set_cons_succ] at hK
                clear hs hne hbf
                go_simp
                all_goals first | with_reducible exact hK.out _ _ rfl (bl_refl _) | exact hK.out _ _ rfl (bl_refl _)
              · cases ho
                have e0 : s 0 = _ := hs 0 (by decide) (by decide) (by kernel_rfl)
                simp only [e0] at hK ⊢
                simp only [Act.put, List.setIfInBounds_toArray, List.set_cons_zero, List.set_cons_succ] at hK
                clear hs hne hbf
                go_simp
                all_goals first | with_reducible exact hK.out _ _ rfl (bl_refl _) | exact hK.out _ _ rfl (bl_refl _)
              · cases ho
                have e1 : s 1 = _ := hs 1 (by decide) (by decide) (by kernel_rfl)
                simp only [e1] at hK ⊢
                simp only [Act.put, List.setIfInBounds_toArray, List.set_cons_zero, List.set_cons_succ] at hK
                clear hs hne hbf
                go_simp
                all_goals first | with_reducible exact hK.out _ _ rfl (bl_refl _) | exact hK.out _ _ rfl (bl_refl _)
              · cases ho
                have e2 : s 2 = _ := hs 2 (by decide) (by decide) (by kernel_rfl)
                simp only [e2] at hK ⊢
                simp only [Act.put, List.setIfInBounds_toArray, List.set_cons_zero, List.set_cons_succ] at hK
                clear hs hne hbf
                go_simp
                all_goals first | with_reducible exact hK.out _ _ rfl (bl_refl _) | exact hK.out _ _ rfl (bl_refl _)
              · cases ho
                have hB2 := hbf (by kernel_rfl); have u4 := keep hB2 (hT.1 7 _ rfl); rw [Nat.zero_add] at u4
                have e3 : s 3 = _ := hs 3 (by decide) (by decide) (by kernel_rfl)
                simp only [e3] at hK ⊢
                simp only [Act.put, List.setIfInBounds_toArray, List.set_cons_zero, List.set_cons_succ] at hK
                clear hs hne hbf
                go_simp
                all_goals first | with_reducible exact hK.out _ _ rfl (bl_refl _) | exact hK.out _ _ rfl (bl_refl _)
              · cases ho
                simp only [Act.put, List.setIfInBounds_toArray, List.set_cons_zero, List.set_cons_succ] at hK
                clear hs hne hbf
                go_simp
                all_goals first | with_reducible exact hK.out _ _ ⟨_, hF _, rfl⟩ (bl_refl _) | exact hK.out _ _ ⟨_, hF _, rfl⟩ (bl_refl _) | with_reducible exact hK.out _ _ rfl (bl_refl _) | exact hK.out _ _ rfl (bl_refl _)
              · cases ho
                simp only [Act.put, List.setIfInBounds_toArray, List.set_cons_zero, List.set_cons_succ] at hK
                clear hs hne hbf
                go_simp
                all_goals first | with_reducible exact hK.out _ _ rfl (bl_refl _) | exact hK.out _ _ rfl (bl_refl _)
              · cases ho
                have e6 : s 6 = _ := hs 6 (by decide) (by decide) (by kernel_rfl)
                simp only [e6] at hK ⊢
                simp only [Act.put, List.setIfInBounds_toArray, List.set_cons_zero, List.set_cons_succ] at hK
                clear hs hne hbf
                go_simp
                all_goals first | with_reducible exact hK.out _ _ rfl (bl_refl _) | exact hK.out _ _ rfl (bl_refl _)
              · cases ho
                have e7 : s 7 = _ := hs 7 (by decide) (by decide) (by kernel_rfl)
                simp only [e7] at hK ⊢
                simp only [Act.put, List.setIfInBounds_toArray, List.set_cons_zero, List.set_cons_succ] at hK
                clear hs hne hbf
                go_simp
                all_goals first | with_reducible exact hK.out _ _ rfl (bl_refl _) | exact hK.out _ _ rfl (bl_refl _)
              · cases ho
                obtain ⟨p5, h5, e5⟩ := hs 5 (by decide) (by decide) (by kernel_rfl)
                have e8 : s 8 = _ := hs 8 (by decide) (by decide) (by kernel_rfl)
                simp only [e5, e8] at hK ⊢
                simp only [Act.put, List.setIfInBounds_toArray, List.set_cons_zero, List.set_cons_succ] at hK
                clear hs hne hbf
                go_simp
                all_goals first | with_reducible exact hK.out _ _ ⟨_, o_is _ h5 (isF_r o4), rfl⟩ (by first | exact bl_refl _ | exact bl_drewN (bl_refl _) _ | exact bl_drew (bl_refl _)) | exact hK.out _ _ ⟨_, o_is _ h5 (isF_r o4), rfl⟩ (by first | exact bl_refl _ | exact bl_drewN (bl_refl _) _ | exact bl_drew (bl_refl _)) | with_reducible exact hK.out _ _ rfl (bl_refl _) | exact hK.out _ _ rfl (bl_refl _)
              · cases ho
                have e4 : s 4 = _ := hs 4 (by decide) (by decide) (by kernel_rfl)
                obtain ⟨p9, h9, e9⟩ := hs 9 (by decide) (by decide) (by kernel_rfl)
                simp only [e4, e9] at hK ⊢
                simp only [Act.put, List.setIfInBounds_toArray, List.set_cons_zero, List.set_cons_succ] at hK
                clear hs hne hbf
                go_simp
                all_goals first | with_reducible exact hK.out _ _ ⟨_, o_is _ hgx2 h9, rfl⟩ (by first | exact bl_refl _ | exact bl_drewN (bl_refl _) _ | exact bl_drew (bl_refl _)) | exact hK.out _ _ ⟨_, o_is _ hgx2 h9, rfl⟩ (by first | exact bl_refl _ | exact bl_drewN (bl_refl _) _ | exact bl_drew (bl_refl _)) | with_reducible exact hK.out _ _ rfl (bl_refl _) | exact hK.out _ _ rfl (bl_refl _)
              · cases ho
                have e0 : s 0 = _ := hs 0 (by decide) (by decide) (by kernel_rfl)
                simp only [e0] at hK ⊢
                simp only [Act.put, List.setIfInBounds_toArray, List.set_cons_zero, List.set_cons_succ] at hK
                clear hs hne hbf
                go_simp
                all_goals first | with_reducible exact hK.out _ _ rfl (bl_refl _) | exact hK.out _ _ rfl (bl_refl _)
              · cases ho
                have e11 : s 11 = _ := hs 11 (by decide) (by decide) (by kernel_rfl)
                simp only [e11] at hK ⊢
                simp only [Act.put, List.setIfInBounds_toArray, List.set_cons_zero, List.set_cons_succ] at hK
                clear hs hne hbf
                go_simp
                all_goals first | with_reducible exact hK.out _ _ rfl (bl_refl _) | exact hK.out _ _ rfl (bl_refl _)
              · cases ho
                have e12 : s 12 = _ := hs 12 (by decide) (by decide) (by kernel_rfl)
                simp only [e12] at hK ⊢
                simp only [Act.put, List.setIfInBounds_toArray, List.set_cons_zero, List.set_cons_succ] at hK
                clear hs hne hbf
                go_simp
                all_goals first | with_reducible exact hK.out _ _ rfl (bl_refl _) | exact hK.out _ _ rfl (bl_refl _)
              · exact absurd rfl hne
            case ht_r1010 =>
              intro s hs W0 W hb0 hb
              have e0 : s 0 = _ := hs 0 (by decide) (by decide)
              have e1 : s 1 = _ := hs 1 (by decide) (by decide)
              have e2 : s 2 = _ := hs 2 (by decide) (by decide)
              have e3 : s 3 = _ := hs 3 (by decide) (by decide)
              have e4 : s 4 = _ := hs 4 (by decide) (by decide)
              obtain ⟨p5, h5, e5⟩ := hs 5 (by decide) (by decide)
              have e6 : s 6 = _ := hs 6 (by decide) (by decide)
              have e7 : s 7 = _ := hs 7 (by decide) (by decide)
              have e8 : s 8 = _ := hs 8 (by decide) (by decide)
              obtain ⟨p9, h9, e9⟩ := hs 9 (by decide) (by decide)
              obtain ⟨p10, h10, e10⟩ := hs 10 (by decide) (by decide)
              have e11 : s 11 = _ := hs 11 (by decide) (by decide)
              have e12 : s 12 = _ := hs 12 (by decide) (by decide)
              have e13 : s 13 = _ := hs 13 (by decide) (by decide)
              simp only [e0, e1, e2, e3, e4, e5, e6, e7, e8, e9, e10, e11, e12, e13]
              rw [e10] at hb
              clear hs e0 e1 e2 e3 e4 e5 e6 e7 e8 e9 e10 e11 e12 e13
              have hR9 : Rd w W wr.heap.size a b fx fy fs p10 gy2 gs2 R.r4 R.r5 R.r7 := Rd.bel (Rd.put7 (Rd.bel (show Rd w cur wr.heap.size a b fx fy fs gx2 gy2 gs2 R.r4 R.r5 R.r7 from ⟨hB9, hT, hg, hU, hz, hgz⟩) hb0) hG) hb
              clear hb0 hb hB9 hT hg hU hz hgz cur W0
              have hn0 := h10
              generalize p10 = v0 at hn0 hR9
              obtain ⟨hB9, hT, hg, hU, hz, hgz⟩ := hR9
              have ki : W.cell? ⟨w.heap.size, 6, none⟩ = some (.float .f64 b.si) := hT.1 6 _ rfl
              go_wp2
              refine at_world (fun W => Rd w W wr.heap.size a b fx fy fs v0 gy2 gs2 R.r4 R.r5 R.r7) (Rd.bel ⟨hB9, hT, hg, hU, hz, hgz⟩ (by repeat (first | exact bl_refl _ | assumption | apply bl_drewN | apply bl_drew | apply bl_alloc | refine bl_set ?_ (by simp <;> omega) | refine bl_trans ?_ (by assumption)))) ?_
              clear hT hU hz ki hg hgz hB9
              rintro cur ⟨hB9, hT, hg, hU, hz, hgz⟩
              refine wp_region_ret2 15 14 10 rfl (fun i v => match i with | 0 => v = .pointer (some ⟨w.heap.size, 5, none⟩) | 1 => v = .pointer (some ⟨w.heap.size, 5, none⟩) | 2 => v = .pointer (some ⟨w.heap.size, 7, none⟩) | 3 => v = .pointer (some ⟨w.heap.size, 8, none⟩) | 4 => v = .float .f64 gy2 | 5 => ∃ p, isF p (oF .mul (bitsK b.sm) P) ∧ v = .float .f64 p | 6 => v = .pointer (some ⟨wr.heap.size, 0, none⟩) | 7 => v = .pointer (some ⟨wr.heap.size, 1, none⟩) | 8 => v = .float .f64 R.r5 | 9 => ∃ p, isF p (oF .mul (oF .mul (bitsK b.sm) P) (bitsK R.r5)) ∧ v = .float .f64 p | 10 => ∃ p, isF p (oF .add (bitsK b.sy) (oF .mul (oF .mul (bitsK b.sm) P) (bitsK R.r5))) ∧ v = .float .f64 p | 11 => v = .pointer (some ⟨w.heap.size, 5, none⟩) | 12 => v = .pointer (some ⟨w.heap.size, 7, none⟩) | 13 => v = .pointer (some ⟨w.heap.size, 8, none⟩) | _ => False) (put1 (w.heap.size) 8) ?A_r1110 (by kernel_rfl) (by kernel_rfl) (by kernel_rfl) (by decide) (by decide) ?hA_r1110 ?hst_r1110 ?hq_r1110 ?ht_r1110
              case hA_r1110 =>
                intro s
                simp only [putL, dstO, Act.put, List.getElem?_toArray, List.getElem?_cons_zero, List.getElem?_cons_succ, Option.bind_some, List.setIfInBounds_toArray, List.set_cons_zero, List.set_cons_succ, if_true]
                all_goals exact rfl
              case hst_r1110 =>
                intro o ho s hs W hb K hK
                cases ho
                have v0 := keep hb (hT.1 8 _ rfl); rw [Nat.zero_add] at v0; have v1 := (bel_there hT.2 hb 8 (by decide)).2; rw [Nat.zero_add] at v1
                have e13 : s 13 = _ := hs 13 (by decide) (by kernel_rfl)
                obtain ⟨p10, h10, e10⟩ := hs 10 (by decide) (by kernel_rfl)
                simp only [e13, e10] at hK ⊢
                clear hs
                go_simp
                exact hK.out
              case hq_r1110 =>
                intro i o hi hne ho s hs W hb hbf K hK
                have q1 := run_mul Try.prog; have q2 := run_add Try.prog; have ug := once_keep1 hb (hg 1 _ rfl) (.inl (by simp only; omega)); rw [Nat.zero_add] at ug
                rcases (show i = 0 ∨ i = 1 ∨ i = 2 ∨ i = 3 ∨ i = 4 ∨ i = 5 ∨ i = 6 ∨ i = 7 ∨ i = 8 ∨ i = 9 ∨ i = 10 ∨ i = 11 ∨ i = 12 ∨ i = 13 ∨ i = 14 by omega) with rfl | rfl | rfl | rfl | rfl | rfl | rfl | rfl | rfl | rfl | rfl | rfl | rfl | rfl | rfl
                · cases ho
                  simp only [Act.put, List.setIfInBounds_toArray, List.set_cons_zero, List.set_cons_succ] at hK
                  clear hs hne hbf
                  go_simp
                  all_goals first | with_reducible exact hK.out _ _ rfl (bl_refl _) | exact hK.out _ _ rfl (bl_refl _)
                · cases ho
                  have e0 : s 0 = _ := hs 0 (by decide) (by decide) (by kernel_rfl)
                  simp only [e0] at hK ⊢
                  simp only [Act.put, List.setIfInBounds_toArray, List.set_cons_zero, List.set_cons_succ] at hK
                  clear hs hne hbf
                  go_simp
                  all_goals first | with_reducible exact hK.out _ _ rfl (bl_refl _) | exact hK.out _ _ rfl (bl_refl _)
                · cases ho
                  have e1 : s 1 = _ := hs 1 (by decide) (by decide) (by kernel_rfl)
                  simp only [e1] at hK ⊢
                  simp only [Act.put, List.setIfInBounds_toArray, List.set_cons_zero, List.set_cons_succ] at hK
                  clear hs hne hbf
                  go_simp
                  all_goals first | with_reducible exact hK.out _ _ rfl (bl_refl _) | exact hK.out _ _ rfl (bl_refl _)
                · cases ho
                  have e2 : s 2 = _ := hs 2 (by decide) (by decide) (by kernel_rfl)
                  simp only [e2] at hK ⊢
                  simp only [Act.put, List.setIfInBounds_toArray, List.set_cons_zero, List.set_cons_succ] at hK
                  clear hs hne hbf
                  go_simp
                  all_goals first | with_reducible exact hK.out _ _ rfl (bl_refl _) | exact hK.out _ _ rfl (bl_refl _)
                · cases ho
                  have hB2 := hbf (by kernel_rfl); have u4 := keep hB2 (hT.1 8 _ rfl); rw [Nat.zero_add] at u4
                  have e3 : s 3 = _ := hs 3 (by decide) (by decide) (by kernel_rfl)
                  simp only [e3] at hK ⊢
                  simp only [Act.put, List.setIfInBounds_toArray, List.set_cons_zero, List.set_cons_succ] at hK
                  clear hs hne hbf
                  go_simp
                  all_goals first | with_reducible exact hK.out _ _ rfl (bl_refl _) | exact hK.out _ _ rfl (bl_refl _)
                · cases ho
                  simp only [Act.put, List.setIfInBounds_toArray, List.set_cons_zero, List.set_cons_succ] at hK
                  clear hs hne hbf
                  go_simp
                  all_goals first | with_reducible exact hK.out _ _ ⟨_, hF _, rfl⟩ (bl_refl _) | exact hK.out _ _ ⟨_, hF _, rfl⟩ (bl_refl _) | with_reducible exact hK.out _ _ rfl (bl_refl _) | exact hK.out _ _ rfl (bl_refl _)
                · cases ho
                  simp only [Act.put, List.setIfInBounds_toArray, List.set_cons_zero, List.set_cons_succ] at hK
                  clear hs hne hbf
                  go_simp
                  all_goals first | with_reducible exact hK.out _ _ rfl (bl_refl _) | exact hK.out _ _ rfl (bl_refl _)
                · cases ho
                  have e6 : s 6 = _ := hs 6 (by decide) (by decide) (by kernel_rfl)
                  simp only [e6] at hK ⊢
                  simp only [Act.put, List.setIfInBounds_toArray, List.set_cons_zero, List.set_cons_succ] at hK
                  clear hs hne hbf
                  go_simp
                  all_goals first | with_reducible exact hK.out _ _ rfl (bl_refl _) | exact hK.out _ _ rfl (bl_refl _)
                · cases ho
                  have e7 : s 7 = _ := hs 7 (by decide) (by decide) (by kernel_rfl)
                  simp only [e7] at hK ⊢
                  simp only [Act.put, List.setIfInBounds_toArray, List.set_cons_zero, List.set_cons_succ] at hK
                  clear hs hne hbf
                  go_simp
                  all_goals first | with_reducible exact hK.out _ _ rfl (bl_refl _) | exact hK.out _ _ rfl (bl_refl _)
                · cases ho
                  obtain ⟨p5, h5, e5⟩ := hs 5 (by decide) (by decide) (by kernel_rfl)
                  have e8 : s 8 = _ := hs 8 (by decide) (by decide) (by kernel_rfl)
                  simp only [e5, e8] at hK ⊢
                  simp only [Act.put, List.setIfInBounds_toArray, List.set_cons_zero, List.set_cons_succ] at hK
                  clear hs hne hbf
                  go_simp
                  all_goals first | with_reducible exact hK.out _ _ ⟨_, o_is _ h5 (isF_r o5), rfl⟩ (by first | exact bl_refl _ | exact bl_drewN (bl_refl _) _ | exact bl_drew (bl_refl _)) | exact hK.out _ _ ⟨_, o_is _ h5 (isF_r o5), rfl⟩ (by first | exact bl_refl _ | exact bl_drewN (bl_refl _) _ | exact bl_drew (bl_refl _)) | with_reducible exact hK.out _ _ rfl (bl_refl _) | exact hK.out _ _ rfl (bl_refl _)
                · cases ho
                  have e4 : s 4 = _ := hs 4 (by decide) (by decide) (by kernel_rfl)
                  obtain ⟨p9, h9, e9⟩ := hs 9 (by decide) (by decide) (by kernel_rfl)
                  simp only [e4, e9] at hK ⊢
                  simp only [Act.put, List.setIfInBounds_toArray, List.set_cons_zero, List.set_cons_succ] at hK
                  clear hs hne hbf
                  go_simp
                  all_goals first | with_reducible exact hK.out _ _ ⟨_, o_is _ hgy2 h9, rfl⟩ (by first | exact bl_refl _ | exact bl_drewN (bl_refl _) _ | exact bl_drew (bl_refl _)) | exact hK.out _ _ ⟨_, o_is _ hgy2 h9, rfl⟩ (by first | exact bl_refl _ | exact bl_drewN (bl_refl _) _ | exact bl_drew (bl_refl _)) | with_reducible exact hK.out _ _ rfl (bl_refl _) | exact hK.out _ _ rfl (bl_refl _)
                · cases ho
                  have e0 : s 0 = _ := hs 0 (by decide) (by decide) (by kernel_rfl)
                  simp only [e0] at hK ⊢
                  simp only [Act.put, List.setIfInBounds_toArray, List.set_cons_zero, List.set_cons_succ] at hK
                  clear hs hne hbf
                  go_simp
                  all_goals first | with_reducible exact hK.out _ _ rfl (bl_refl _) | exact hK.out _ _ rfl (bl_refl _)
                · cases ho
                  have e11 : s 11 = _ := hs 11 (by decide) (by decide) (by kernel_rfl)
                  simp only [e11] at hK ⊢
                  simp only [Act.put, List.setIfInBounds_toArray, List.set_cons_zero, List.set_cons_succ] at hK
                  clear hs hne hbf
                  go_simp
                  all_goals first | with_reducible exact hK.out _ _ rfl (bl_refl _) | exact hK.out _ _ rfl (bl_refl _)
                · cases ho
                  have e12 : s 12 = _ := hs 12 (by decide) (by decide) (by kernel_rfl)
                  simp only [e12] at hK ⊢
                  simp only [Act.put, List.setIfInBounds_toArray, List.set_cons_zero, List.set_cons_succ] at hK
                  clear hs hne hbf
                  go_simp
                  all_goals first | with_reducible exact hK.out _ _ rfl (bl_refl _) | exact hK.out _ _ rfl (bl_refl _)
                · exact absurd rfl hne
              case ht_r1110 =>
                intro s hs W0 W hb0 hb
                have e0 : s 0 = _ := hs 0 (by decide) (by decide)
                have e1 : s 1 = _ := hs 1 (by decide) (by decide)
                have e2 : s 2 = _ := hs 2 (by decide) (by decide)
                have e3 : s 3 = _ := hs 3 (by decide) (by decide)
                have e4 : s 4 = _ := hs 4 (by decide) (by decide)
                obtain ⟨p5, h5, e5⟩ := hs 5 (by decide) (by decide)
                have e6 : s 6 = _ := hs 6 (by decide) (by decide)
                have e7 : s 7 = _ := hs 7 (by decide) (by decide)
                have e8 : s 8 = _ := hs 8 (by decide) (by decide)
                obtain ⟨p9, h9, e9⟩ := hs 9 (by decide) (by decide)
                obtain ⟨p10, h10, e10⟩ := hs 10 (by decide) (by decide)
                have e11 : s 11 = _ := hs 11 (by decide) (by decide)
                have e12 : s 12 = _ := hs 12 (by decide) (by decide)
                have e13 : s 13 = _ := hs 13 (by decide) (by decide)
                simp only [e0, e1, e2, e3, e4, e5, e6, e7, e8, e9, e10, e11, e12, e13]
                rw [e10] at hb
                clear hs e0 e1 e2 e3 e4 e5 e6 e7 e8 e9 e10 e11 e12 e13
                have hR9 : Rd w W wr.heap.size a b fx fy fs v0 p10 gs2 R.r4 R.r5 R.r7 := Rd.bel (Rd.put8 (Rd.bel (show Rd w cur wr.heap.size a b fx fy fs v0 gy2 gs2 R.r4 R.r5 R.r7 from ⟨hB9, hT, hg, hU, hz, hgz⟩) hb0) hG) hb
                clear hb0 hb hB9 hT hg hU hz hgz cur W0
                have hn1 := h10
                generalize p10 = v1 at hn1 hR9
                obtain ⟨hB9, hT, hg, hU, hz, hgz⟩ := hR9
                have ki : W.cell? ⟨w.heap.size, 6, none⟩ = some (.float .f64 b.si) := hT.1 6 _ rfl
                go_wp2
                refine ⟨⟨1 + 1, by omega, by go_num, _, _, _, _, _, _, hB9, hT, hU, hz, hfx, hfy, hfs, puX_yes hm hn0, puX_yes hm hn1, (pu_no hi hgs2).2⟩, by simp [intOf] <;> omega⟩
          · as_aux_lemma =>
            have qi : ∀ X : World, (Instr.index 135 (.agg #[.float .f64 R.r2, .float .f64 R.r3, .float .f64 R.r6, .float .f64 R.r4, .float .f64 R.r5, .float .f64 R.r7]) (.int .i64 1)).run Try.prog X = .ok (.agg #[.float .f64 R.r4, .float .f64 R.r5, .float .f64 R.r7]) X := fun X => by kernel_rfl
            have km : (wr.alloc (.cells #[.float .f64 R.r4, .float .f64 R.r5, .float .f64 R.r7] 134)).cell? ⟨w.heap.size, 5, none⟩ = some (.float .f64 b.sm) := up_alloc (hT.1 5 _ rfl)
            have ki : (wr.alloc (.cells #[.float .f64 R.r4, .float .f64 R.r5, .float .f64 R.r7] 134)).cell? ⟨w.heap.size, 6, none⟩ = some (.float .f64 b.si) := up_alloc (hT.1 6 _ rfl)
            go_wp2
            refine at_world (fun W => Rd w W wr.heap.size a b fx fy fs gx2 gy2 gs2 R.r4 R.r5 R.r7) (rd_start hB hT hU hz (by repeat (first | exact bl_refl _ | assumption | apply bl_drewN | apply bl_drew | apply bl_alloc | refine bl_set ?_ (by simp <;> omega) | refine bl_trans ?_ (by assumption)))) ?_
            clear hT hU hz km ki
            rintro cur ⟨hB9, hT, hg, hU, hz, hgz⟩
            refine wp_region_ret2 15 14 10 rfl (fun i v => match i with | 0 => v = .pointer (some ⟨w.heap.size, 5, none⟩) | 1 => v = .pointer (some ⟨w.heap.size, 5, none⟩) | 2 => v = .pointer (some ⟨w.heap.size, 7, none⟩) | 3 => v = .pointer (some ⟨w.heap.size, 7, none⟩) | 4 => v = .float .f64 gx2 | 5 => ∃ p, isF p (oF .mul (bitsK b.sm) P) ∧ v = .float .f64 p | 6 => v = .pointer (some ⟨wr.heap.size, 0, none⟩) | 7 => v = .pointer (some ⟨wr.heap.size, 0, none⟩) | 8 => v = .float .f64 R.r4 | 9 => ∃ p, isF p (oF .mul (oF .mul (bitsK b.sm) P) (bitsK R.r4)) ∧ v = .float .f64 p | 10 => ∃ p, isF p (oF .add (bitsK b.sx) (oF .mul (oF .mul (bitsK b.sm) P) (bitsK R.r4))) ∧ v = .float .f64 p | 11 => v = .pointer (some ⟨w.heap.size, 5, none⟩) | 12 => v = .pointer (some ⟨w.heap.size, 7, none⟩) | 13 => v = .pointer (some ⟨w.heap.size, 7, none⟩) | _ => False) (put1 (w.heap.size) 7) ?A_r1011 (by kernel_rfl) (by kernel_rfl) (by kernel_rfl) (by decide) (by decide) ?hA_r1011 ?hst_r1011 ?hq_r1011 ?ht_r1011
            case hA_r1011 =>
              intro s
              simp only [putL, dstO, Act.put, List.getElem?_toArray, List.getElem?_cons_zero, List.getElem?_cons_succ, Option.bind_some, List.setIfInBounds_toArray, List.set_cons_zero, List.set_cons_succ, if_true]
              all_goals exact rfl
            case hst_r1011 =>
              intro o ho s hs W hb K hK
              cases ho
              have v0 := keep hb (hT.1 7 _ rfl); rw [Nat.zero_add] at v0; have v1 := (bel_there hT.2 hb 7 (by decide)).2; rw [Nat.zero_add] at v1
              have e13 : s 13 = _ := hs 13 (by decide) (by kernel_rfl)
              obtain ⟨p10, h10, e10⟩ := hs 10 (by decide) (by kernel_rfl)
              simp only [e13, e10] at hK ⊢
              clear hs
              go_simp
              exact hK.out
            case hq_r1011 =>
              intro i o hi hne ho s hs W hb hbf K hK
              have q1 := run_mul Try.prog; have q2 := run_add Try.prog; have ug := once_keep1 hb (hg 0 _ rfl) (.inl (by simp only; omega)); rw [Nat.zero_add] at ug
              rcases (show i = 0 ∨ i = 1 ∨ i = 2 ∨ i = 3 ∨ i = 4 ∨ i = 5 ∨ i = 6 ∨ i = 7 ∨ i = 8 ∨ i = 9 ∨ i = 10 ∨ i = 11 ∨ i = 12 ∨ i = 13 ∨ i = 14 by omega) with rfl | rfl | rfl | rfl | rfl | rfl | rfl | rfl | rfl | rfl | rfl | rfl | rfl | rfl | rfl
              · cases ho
                simp only [Act.put, List.setIfInBounds_toArray, List.set_cons_zero, List.set_cons_succ] at hK
                clear hs hne hbf
                go_simp
                all_goals first | with_reducible exact hK.out _ _ rfl (bl_refl _) | exact hK.out _ _ rfl (bl_refl _)
              · cases ho
                have e0 : s 0 = _ := hs 0 (by decide) (by decide) (by kernel_rfl)
                simp only [e0] at hK ⊢
                simp only [Act.put, List.setIfInBounds_toArray, List.set_cons_zero, List.set_cons_succ] at hK
                clear hs hne hbf
                go_simp
                all_goals first | with_reducible exact hK.out _ _ rfl (bl_refl _) | exact hK.out _ _ rfl (bl_refl _)
              · cases ho
                have e1 : s 1 = _ := hs 1 (by decide) (by decide) (by kernel_rfl)
                simp only [e1] at hK ⊢
                simp only [Act.put, List.setIfInBounds_toArray, List.set_cons_zero, List.set_cons_succ] at hK
                clear hs hne hbf
                go_simp
                all_goals first | with_reducible exact hK.out _ _ rfl (bl_refl _) | exact hK.out _ _ rfl (bl_refl _)
              · cases ho
                have e2 : s 2 = _ := hs 2 (by decide) (by decide) (by kernel_rfl)
                simp only [e2] at hK ⊢
                simp only [Act.put, List.setIfInBounds_toArray, List.set_cons_zero, List.set_cons_succ] at hK
                clear hs hne hbf
                go_simp
                all_goals first | with_reducible exact hK.out _ _ rfl (bl_refl _) | exact hK.out _ _ rfl (bl_refl _)
              · cases ho
                have hB2 := hbf (by kernel_rfl); have u4 := keep hB2 (hT.1 7 _ rfl); rw [Nat.zero_add] at u4
                have e3 : s 3 = _ := hs 3 (by decide) (by decide) (by kernel_rfl)
                simp only [e3] at hK ⊢
                simp only [Act.put, List.setIfInBounds_toArray, List.set_cons_zero, List.set_cons_succ] at hK
                clear hs hne hbf
                go_simp
                all_goals first | with_reducible exact hK.out _ _ rfl (bl_refl _) | exact hK.out _ _ rfl (bl_refl _)
              · cases ho
                simp only [Act.put, List.setIfInBounds_toArray, List.set_cons_zero, List.set_cons_succ] at hK
                clear hs hne hbf
                go_simp
                all_goals first | with_reducible exact hK.out _ _ ⟨_, hF _, rfl⟩ (bl_refl _) | exact hK.out _ _ ⟨_, hF _, rfl⟩ (bl_refl _) | with_reducible exact hK.out _ _ rfl (bl_refl _) | exact hK.out _ _ rfl (bl_refl _)
              · cases ho
                simp only [Act.put, List.setIfInBounds_toArray, List.set_cons_zero, List.set_cons_succ] at hK
                clear hs hne hbf
                go_simp
                all_goals first | with_reducible exact hK.out _ _ rfl (bl_refl _) | exact hK.out _ _ rfl (bl_refl _)
              · cases ho
                have e6 : s 6 = _ := hs 6 (by decide) (by decide) (by kernel_rfl)
                simp only [e6] at hK ⊢
                simp only [Act.put, List.setIfInBounds_toArray, List.set_cons_zero, List.set_cons_succ] at hK
                clear hs hne hbf
                go_simp
                all_goals first | with_reducible exact hK.out _ _ rfl (bl_refl _) | exact hK.out _ _ rfl (bl_refl _)
              · cases ho
                have e7 : s 7 = _ := hs 7 (by decide) (by decide) (by kernel_rfl)
                simp only [e7] at hK ⊢
                simp only [Act.put, List.setIfInBounds_toArray, List.set_cons_zero, List.set_cons_succ] at hK
                clear hs hne hbf
                go_simp
                all_goals first | with_reducible exact hK.out _ _ rfl (bl_refl _) | exact hK.out _ _ rfl (bl_refl _)
              · cases ho
                obtain ⟨p5, h5, e5⟩ := hs 5 (by decide) (by decide) (by kernel_rfl)
                have e8 : s 8 = _ := hs 8 (by decide) (by decide) (by kernel_rfl)
                simp only [e5, e8] at hK ⊢
                simp only [Act.put, List.setIfInBounds_toArray, List.set_cons_zero, List.set_cons_succ] at hK
                clear hs hne hbf
                go_simp
                all_goals first | with_reducible exact hK.out _ _ ⟨_, o_is _ h5 (isF_r o4), rfl⟩ (by first | exact bl_refl _ | exact bl_drewN (bl_refl _) _ | exact bl_drew (bl_refl _)) | exact hK.out _ _ ⟨_, o_is _ h5 (isF_r o4), rfl⟩ (by first | exact bl_refl _ | exact bl_drewN (bl_refl _) _ | exact bl_drew (bl_refl _)) | with_reducible exact hK.out _ _ rfl (bl_refl _) | exact hK.out _ _ rfl (bl_refl _)
              · cases ho
                have e4 : s 4 = _ := hs 4 (by decide) (by decide) (by kernel_rfl)
                obtain ⟨p9, h9, e9⟩ := hs 9 (by decide) (by decide) (by kernel_rfl)
                simp only [e4, e9] at hK ⊢
                simp only [Act.put, List.setIfInBounds_toArray, List.set_cons_zero, List.set_cons_succ] at hK
                clear hs hne hbf
                go_simp
                all_goals first | with_reducible exact hK.out _ _ ⟨_, o_is _ hgx2 h9, rfl⟩ (by first | exact bl_refl _ | exact bl_drewN (bl_refl _) _ | exact bl_drew (bl_refl _)) | exact hK.out _ _ ⟨_, o_is _ hgx2 h9, rfl⟩ (by first | exact bl_refl _ | exact bl_drewN (bl_refl _) _ | exact bl_drew (bl_refl _)) | with_reducible exact hK.out _ _ rfl (bl_refl _) | exact hK.out _ _ rfl (bl_refl _)
              · cases ho
                have e0 : s 0 = _ := hs 0 (by decide) (by decide) (by kernel_rfl)
                simp only [e0] at hK ⊢
                simp only [Act.put, List.setIfInBounds_toArray, List.set_cons_zero, List.set_cons_succ] at hK
                clear hs hne hbf
                go_simp
                all_goals first | with_reducible exact hK.out _ _ rfl (bl_refl _) | exact hK.out _ _ rfl (bl_refl _)
              · cases ho
                have e11 : s 11 = _ := hs 11 (by decide) (by decide) (by kernel_rfl)
                simp only [e11] at hK ⊢
                simp only [Act.put, List.setIfInBounds_toArray, List.set_cons_zero, List.set_cons_succ] at hK
                clear hs hne hbf
                go_simp
                all_goals first | with_reducible exact hK.out _ _ rfl (bl_refl _) | exact hK.out _ _ rfl (bl_refl _)
              · cases ho
                have e12 : s 12 = _ := hs 12 (by decide) (by decide) (by kernel_rfl)
                simp only [e12] at hK ⊢
                simp only [Act.put, List.setIfInBounds_toArray, List.set_cons_zero, List.set_cons_succ] at hK
                clear hs hne hbf
                go_simp
                all_goals first | with_reducible exact hK.out _ _ rfl (bl_refl _) | exact hK.out _ _ rfl (bl_refl _)
              · exact absurd rfl hne
            case ht_r1011 =>
              intro s hs W0 W hb0 hb
              have e0 : s 0 = _ := hs 0 (by decide) (by decide)
              have e1 : s 1 = _ := hs 1 (by decide) (by decide)
              have e2 : s 2 = _ := hs 2 (by decide) (by decide)
              have e3 : s 3 = _ := hs 3 (by decide) (by decide)
              have e4 : s 4 = _ := hs 4 (by decide) (by decide)
              obtain ⟨p5, h5, e5⟩ := hs 5 (by decide) (by decide)
              have e6 : s 6 = _ := hs 6 (by decide) (by decide)
              have e7 : s 7 = _ := hs 7 (by decide) (by decide)
              have e8 : s 8 = _ := hs 8 (by decide) (by decide)
              obtain ⟨p9, h9, e9⟩ := hs 9 (by decide) (by decide)
              obtain ⟨p10, h10, e10⟩ := hs 10 (by decide) (by decide)
              have e11 : s 11 = _ := hs 11 (by decide) (by decide)
              have e12 : s 12 = _ := hs 12 (by decide) (by decide)
              have e13 : s 13 = _ := hs 13 (by decide) (by decide)
              simp only [e0, e1, e2, e3, e4, e5, e6, e7, e8, e9, e10, e11, e12, e13]
              rw [e10] at hb
              clear hs e0 e1 e2 e3 e4 e5 e6 e7 e8 e9 e10 e11 e12 e13
              have hR9 : Rd w W wr.heap.size a b fx fy fs p10 gy2 gs2 R.r4 R.r5 R.r7 := Rd.bel (Rd.put7 (Rd.bel (show Rd w cur wr.heap.size a b fx fy fs gx2 gy2 gs2 R.r4 R.r5 R.r7 from ⟨hB9, hT, hg, hU, hz, hgz⟩) hb0) hG) hb
              clear hb0 hb hB9 hT hg hU hz hgz cur W0
              have hn0 := h10
              generalize p10 = v0 at hn0 hR9
              obtain ⟨hB9, hT, hg, hU, hz, hgz⟩ := hR9
              have ki : W.cell? ⟨w.heap.size, 6, none⟩ = some (.float .f64 b.si) := hT.1 6 _ rfl
              go_wp2
              refine at_world (fun W => Rd w W wr.heap.size a b fx fy fs v0 gy2 gs2 R.r4 R.r5 R.r7) (Rd.bel ⟨hB9, hT, hg, hU, hz, hgz⟩ (by repeat (first | exact bl_refl _ | assumption | apply bl_drewN | apply bl_drew | apply bl_alloc | refine bl_set ?_ (by simp <;> omega) | refine bl_trans ?_ (by assumption)))) ?_
              clear hT hU hz ki hg hgz hB9
              rintro cur ⟨hB9, hT, hg, hU, hz, hgz⟩
              refine wp_region_ret2 15 14 10 rfl (fun i v => match i with | 0 => v = .pointer (some ⟨w.heap.size, 5, none⟩) | 1 => v = .pointer (some ⟨w.heap.size, 5, none⟩) | 2 => v = .pointer (some ⟨w.heap.size, 7, none⟩) | 3 => v = .pointer (some ⟨w.heap.size, 8, none⟩) | 4 => v = .float .f64 gy2 | 5 => ∃ p, isF p (oF .mul (bitsK b.sm) P) ∧ v = .float .f64 p | 6 => v = .pointer (some ⟨wr.heap.size, 0, none⟩) | 7 => v = .pointer (some ⟨wr.heap.size, 1, none⟩) | 8 => v = .float .f64 R.r5 | 9 => ∃ p, isF p (oF .mul (oF .mul (bitsK b.sm) P) (bitsK R.r5)) ∧ v = .float .f64 p | 10 => ∃ p, isF p (oF .add (bitsK b.sy) (oF .mul (oF .mul (bitsK b.sm) P) (bitsK R.r5))) ∧ v = .float .f64 p | 11 => v = .pointer (some ⟨w.heap.size, 5, none⟩) | 12 => v = .pointer (some ⟨w.heap.size, 7, none⟩) | 13 => v = .pointer (some ⟨w.heap.size, 8, none⟩) | _ => False) (put1 (w.heap.size) 8) ?A_r1111 (by kernel_rfl) (by kernel_rfl) (by kernel_rfl) (by decide) (by decide) ?hA_r1111 ?hst_r1111 ?hq_r1111 ?ht_r1111
              case hA_r1111 =>
                intro s
                simp only [putL, dstO, Act.put, List.getElem?_toArray, List.getElem?_cons_zero, List.getElem?_cons_succ, Option.bind_some, List.setIfInBounds_toArray, List.set_cons_zero, List.set_cons_succ, if_true]
                all_goals exact rfl
              case hst_r1111 =>
                intro o ho s hs W hb K hK
                cases ho
                have v0 := keep hb (hT.1 8 _ rfl); rw [Nat.zero_add] at v0; have v1 := (bel_there hT.2 hb 8 (by decide)).2; rw [Nat.zero_add] at v1
                have e13 : s 13 = _ := hs 13 (by decide) (by kernel_rfl)
                obtain ⟨p10, h10, e10⟩ := hs 10 (by decide) (by kernel_rfl)
                simp only [e13, e10] at hK ⊢
                clear hs
                go_simp
                exact hK.out
              case hq_r1111 =>
                intro i o hi hne ho s hs W hb hbf K hK
                have q1 := run_mul Try.prog; have q2 := run_add Try.prog; have ug := once_keep1 hb (hg 1 _ rfl) (.inl (by simp only; omega)); rw [Nat.zero_add] at ug
                rcases (show i = 0 ∨ i = 1 ∨ i = 2 ∨ i = 3 ∨ i = 4 ∨ i = 5 ∨ i = 6 ∨ i = 7 ∨ i = 8 ∨ i = 9 ∨ i = 10 ∨ i = 11 ∨ i = 12 ∨ i = 13 ∨ i = 14 by omega) with rfl | rfl | rfl | rfl | rfl | rfl | rfl | rfl | rfl | rfl | rfl | rfl | rfl | rfl | rfl
                · cases ho
                  simp only [Act.put, List.setIfInBounds_toArray, List.set_cons_zero, List.set_cons_succ] at hK
                  clear hs hne hbf
                  go_simp
                  all_goals first | with_reducible exact hK.out _ _ rfl (bl_refl _) | exact hK.out _ _ rfl (bl_refl _)
                · cases ho
                  have e0 : s 0 = _ := hs 0 (by decide) (by decide) (by kernel_rfl)
                  simp only [e0] at hK ⊢
                  simp only [Act.put, List.setIfInBounds_toArray, List.set_cons_zero, List.set_cons_succ] at hK
                  clear hs hne hbf
                  go_simp
                  all_goals first | with_reducible exact hK.out _ _ rfl (bl_refl _) | exact hK.out _ _ rfl (bl_refl _)
                · cases ho
                  have e1 : s 1 = _ := hs 1 (by decide) (by decide) (by kernel_rfl)
                  simp only [e1] at hK ⊢
                  simp only [Act.put, List.setIfInBounds_toArray, List.set_cons_zero, List.set_cons_succ] at hK
                  clear hs hne hbf
                  go_simp
                  all_goals first | with_reducible exact hK.out _ _ rfl (bl_refl _) | exact hK.out _ _ rfl (bl_refl _)
                · cases ho
                  have e2 : s 2 = _ := hs 2 (by decide) (by decide) (by kernel_rfl)
                  simp only [e2] at hK ⊢
                  simp only [Act.put, List.setIfInBounds_toArray, List.set_cons_zero, List.set_cons_succ] at hK
                  clear hs hne hbf
                  go_simp
                  all_goals first | with_reducible exact hK.out _ _ rfl (bl_refl _) | exact hK.out _ _ rfl (bl_refl _)
                · cases ho
                  have hB2 := hbf (by kernel_rfl); have u4 := keep hB2 (hT.1 8 _ rfl); rw [Nat.zero_add] at u4
                  have e3 : s 3 = _ := hs 3 (by decide) (by decide) (by kernel_rfl)
                  simp only [e3] at hK ⊢
                  simp only [Act.put, List.setIfInBounds_toArray, List.set_cons_zero, List.set_cons_succ] at hK
                  clear hs hne hbf
                  go_simp
                  all_goals first | with_reducible exact hK.out _ _ rfl (bl_refl _) | exact hK.out _ _ rfl (bl_refl _)
                · cases ho
                  simp only [Act.put, List.setIfInBounds_toArray, List.set_cons_zero, List.set_cons_succ] at hK
                  clear hs hne hbf
                  go_simp
                  all_goals first | with_reducible exact hK.out _ _ ⟨_, hF _, rfl⟩ (bl_refl _) | exact hK.out _ _ ⟨_, hF _, rfl⟩ (bl_refl _) | with_reducible exact hK.out _ _ rfl (bl_refl _) | exact hK.out _ _ rfl (bl_refl _)
                · cases ho
                  simp only [Act.put, List.setIfInBounds_toArray, List.set_cons_zero, List.set_cons_succ] at hK
                  clear hs hne hbf
                  go_simp
                  all_goals first | with_reducible exact hK.out _ _ rfl (bl_refl _) | exact hK.out _ _ rfl (bl_refl _)
                · cases ho
                  have e6 : s 6 = _ := hs 6 (by decide) (by decide) (by kernel_rfl)
                  simp only [e6] at hK ⊢
                  simp only [Act.put, List.setIfInBounds_toArray, List.set_cons_zero, List.set_cons_succ] at hK
                  clear hs hne hbf
                  go_simp
                  all_goals first | with_reducible exact hK.out _ _ rfl (bl_refl _) | exact hK.out _ _ rfl (bl_refl _)
                · cases ho
                  have e7 : s 7 = _ := hs 7 (by decide) (by decide) (by kernel_rfl)
                  simp only [e7] at hK ⊢
                  simp only [Act.put, List.setIfInBounds_toArray, List.set_cons_zero, List.set_cons_succ] at hK
                  clear hs hne hbf
                  go_simp
                  all_goals first | with_reducible exact hK.out _ _ rfl (bl_refl _) | exact hK.out _ _ rfl (bl_refl _)
                · cases ho
                  obtain ⟨p5, h5, e5⟩ := hs 5 (by decide) (by decide) (by kernel_rfl)
                  have e8 : s 8 = _ := hs 8 (by decide) (by decide) (by kernel_rfl)
                  simp only [e5, e8] at hK ⊢
                  simp only [Act.put, List.setIfInBounds_toArray, List.set_cons_zero, List.set_cons_succ] at hK
                  clear hs hne hbf
                  go_simp
                  all_goals first | with_reducible exact hK.out _ _ ⟨_, o_is _ h5 (isF_r o5), rfl⟩ (by first | exact bl_refl _ | exact bl_drewN (bl_refl _) _ | exact bl_drew (bl_refl _)) | exact hK.out _ _ ⟨_, o_is _ h5 (isF_r o5), rfl⟩ (by first | exact bl_refl _ | exact bl_drewN (bl_refl _) _ | exact bl_drew (bl_refl _)) | with_reducible exact hK.out _ _ rfl (bl_refl _) | exact hK.out _ _ rfl (bl_refl _)
                · cases ho
                  have e4 : s 4 = _ := hs 4 (by decide) (by decide) (by kernel_rfl)
                  obtain ⟨p9, h9, e9⟩ := hs 9 (by decide) (by decide) (by kernel_rfl)
                  simp only [e4, e9] at hK ⊢
                  simp only [Act.put, List.setIfInBounds_toArray, List.set_cons_zero, List.set_cons_succ] at hK
                  clear hs hne hbf
                  go_simp
                  all_goals first | with_reducible exact hK.out _ _ ⟨_, o_is _ hgy2 h9, rfl⟩ (by first | exact bl_refl _ | exact bl_drewN (bl_refl _) _ | exact bl_drew (bl_refl _)) | exact hK.out _ _ ⟨_, o_is _ hgy2 h9, rfl⟩ (by first | exact bl_refl _ | exact bl_drewN (bl_refl _) _ | exact bl_drew (bl_refl _)) | with_reducible exact hK.out _ _ rfl (bl_refl _) | exact hK.out _ _ rfl (bl_refl _)
                · cases ho
                  have e0 : s 0 = _ := hs 0 (by decide) (by decide) (by kernel_rfl)
                  simp only [e0] at hK ⊢
                  simp only [Act.put, List.setIfInBounds_toArray, List.set_cons_zero, List.set_cons_succ] at hK
                  clear hs hne hbf
                  go_simp
                  all_goals first | with_reducible exact hK.out _ _ rfl (bl_refl _) | exact hK.out _ _ rfl (bl_refl _)
                · cases ho
                  have e11 : s 11 = _ := hs 11 (by decide) (by decide) (by kernel_rfl)
                  simp only [e11] at hK ⊢
                  simp only [Act.put, List.setIfInBounds_toArray, List.set_cons_zero, List.set_cons_succ] at hK
                  clear hs hne hbf
                  go_simp
                  all_goals first | with_reducible exact hK.out _ _ rfl (bl_refl _) | exact hK.out _ _ rfl (bl_refl _)
                · cases ho
                  have e12 : s 12 = _ := hs 12 (by decide) (by decide) (by kernel_rfl)
                  simp only [e12] at hK ⊢
                  simp only [Act.put, List.setIfInBounds_toArray, List.set_cons_zero, List.set_cons_succ] at hK
                  clear hs hne hbf
                  go_simp
                  all_goals first | with_reducible exact hK.out _ _ rfl (bl_refl _) | exact hK.out _ _ rfl (bl_refl _)
                · exact absurd rfl hne
              case ht_r1111 =>
                intro s hs W0 W hb0 hb
                have e0 : s 0 = _ := hs 0 (by decide) (by decide)
                have e1 : s 1 = _ := hs 1 (by decide) (by decide)
                have e2 : s 2 = _ := hs 2 (by decide) (by decide)
                have e3 : s 3 = _ := hs 3 (by decide) (by decide)
                have e4 : s 4 = _ := hs 4 (by decide) (by decide)
                obtain ⟨p5, h5, e5⟩ := hs 5 (by decide) (by decide)
                have e6 : s 6 = _ := hs 6 (by decide) (by decide)
                have e7 : s 7 = _ := hs 7 (by decide) (by decide)
                have e8 : s 8 = _ := hs 8 (by decide) (by decide)
                obtain ⟨p9, h9, e9⟩ := hs 9 (by decide) (by decide)
                obtain ⟨p10, h10, e10⟩ := hs 10 (by decide) (by decide)
                have e11 : s 11 = _ := hs 11 (by decide) (by decide)
                have e12 : s 12 = _ := hs 12 (by decide) (by decide)
                have e13 : s 13 = _ := hs 13 (by decide) (by decide)
                simp only [e0, e1, e2, e3, e4, e5, e6, e7, e8, e9, e10, e11, e12, e13]
                rw [e10] at hb
                clear hs e0 e1 e2 e3 e4 e5 e6 e7 e8 e9 e10 e11 e12 e13
                have hR9 : Rd w W wr.heap.size a b fx fy fs v0 p10 gs2 R.r4 R.r5 R.r7 := Rd.bel (Rd.put8 (Rd.bel (show Rd w cur wr.heap.size a b fx fy fs v0 gy2 gs2 R.r4 R.r5 R.r7 from ⟨hB9, hT, hg, hU, hz, hgz⟩) hb0) hG) hb
                clear hb0 hb hB9 hT hg hU hz hgz cur W0
                have hn1 := h10
                generalize p10 = v1 at hn1 hR9
                obtain ⟨hB9, hT, hg, hU, hz, hgz⟩ := hR9
                have ki : W.cell? ⟨w.heap.size, 6, none⟩ = some (.float .f64 b.si) := hT.1 6 _ rfl
                go_wp2
                refine at_world (fun W => Rd w W wr.heap.size a b fx fy fs v0 v1 gs2 R.r4 R.r5 R.r7) (Rd.bel ⟨hB9, hT, hg, hU, hz, hgz⟩ (by repeat (first | exact bl_refl _ | assumption | apply bl_drewN | apply bl_drew | apply bl_alloc | refine bl_set ?_ (by simp <;> omega) | refine bl_trans ?_ (by assumption)))) ?_
                clear hT hU hz ki hg hgz hB9
                rintro cur ⟨hB9, hT, hg, hU, hz, hgz⟩
                refine wp_region_ret2 17 16 13 rfl (fun i v => match i with | 0 => v = .pointer (some ⟨w.heap.size, 5, none⟩) | 1 => v = .pointer (some ⟨w.heap.size, 5, none⟩) | 2 => v = .pointer (some ⟨w.heap.size, 9, none⟩) | 3 => v = .float .f64 gs2 | 4 => v = .pointer (some ⟨w.heap.size, 5, none⟩) | 5 => v = .pointer (some ⟨w.heap.size, 5, none⟩) | 6 => v = .pointer (some ⟨w.heap.size, 6, none⟩) | 7 => v = .float .f64 b.si | 8 => v = .float .f64 p | 9 => v = .pointer (some ⟨wr.heap.size, 2, none⟩) | 10 => v = .float .f64 R.r7 | 11 => ∃ p, isF p (oF .mul P (bitsK R.r7)) ∧ v = .float .f64 p | 12 => ∃ p, isF p (oF .mul (bitsK b.si) (oF .mul P (bitsK R.r7))) ∧ v = .float .f64 p | 13 => ∃ p, isF p (oF .add (bitsK b.ss) (oF .mul (bitsK b.si) (oF .mul P (bitsK R.r7)))) ∧ v = .float .f64 p | 14 => v = .pointer (some ⟨w.heap.size, 5, none⟩) | 15 => v = .pointer (some ⟨w.heap.size, 9, none⟩) | _ => False) (put1 (w.heap.size) 9) ?A_r1211 (by kernel_rfl) (by kernel_rfl) (by kernel_rfl) (by decide) (by decide) ?hA_r1211 ?hst_r1211 ?hq_r1211 ?ht_r1211
                case hA_r1211 =>
                  intro s
                  simp only [putL, dstO, Act.put, List.getElem?_toArray, List.getElem?_cons_zero, List.getElem?_cons_succ, Option.bind_some, List.setIfInBounds_toArray, List.set_cons_zero, List.set_cons_succ, if_true]
                  all_goals exact rfl
                case hst_r1211 =>
                  intro o ho s hs W hb K hK
                  cases ho
                  have v0 := keep hb (hT.1 9 _ rfl); rw [Nat.zero_add] at v0; have v1 := (bel_there hT.2 hb 9 (by decide)).2; rw [Nat.zero_add] at v1
                  have e15 : s 15 = _ := hs 15 (by decide) (by kernel_rfl)
                  obtain ⟨p13, h13, e13⟩ := hs 13 (by decide) (by kernel_rfl)
                  simp only [e15, e13] at hK ⊢
                  clear hs
                  go_simp
                  exact hK.out
                case hq_r1211 =>
                  intro i o hi hne ho s hs W hb hbf K hK
                  have q1 := run_mul Try.prog; have q2 := run_add Try.prog; have ug := once_keep1 hb (hg 2 _ rfl) (.inl (by simp only; omega)); rw [Nat.zero_add] at ug; have ui := once_keep1 hb (hT.1 6 _ rfl) (.inr (by simp only; omega)); rw [Nat.zero_add] at ui
                  rcases (show i = 0 ∨ i = 1 ∨ i = 2 ∨ i = 3 ∨ i = 4 ∨ i = 5 ∨ i = 6 ∨ i = 7 ∨ i = 8 ∨ i = 9 ∨ i = 10 ∨ i = 11 ∨ i = 12 ∨ i = 13 ∨ i = 14 ∨ i = 15 ∨ i = 16 by omega) with rfl | rfl | rfl | rfl | rfl | rfl | rfl | rfl | rfl | rfl | rfl | rfl | rfl | rfl | rfl | rfl | rfl
                  · cases ho
                    simp only [Act.put, List.setIfInBounds_toArray, List.set_cons_zero, List.set_cons_succ] at hK
                    clear hs hne hbf
                    go_simp
                    all_goals first | with_reducible exact hK.out _ _ rfl (bl_refl _) | exact hK.out _ _ rfl (bl_refl _)
                  · cases ho
                    have e0 : s 0 = _ := hs 0 (by decide) (by decide) (by kernel_rfl)
                    simp only [e0] at hK ⊢
                    simp only [Act.put, List.setIfInBounds_toArray, List.set_cons_zero, List.set_cons_succ] at hK
                    clear hs hne hbf
                    go_simp
                    all_goals first | with_reducible exact hK.out _ _ rfl (bl_refl _) | exact hK.out _ _ rfl (bl_refl _)
                  · cases ho
                    have e1 : s 1 = _ := hs 1 (by decide) (by decide) (by kernel_rfl)
                    simp only [e1] at hK ⊢
                    simp only [Act.put, List.setIfInBounds_toArray, List.set_cons_zero, List.set_cons_succ] at hK
                    clear hs hne hbf
                    go_simp
                    all_goals first | with_reducible exact hK.out _ _ rfl (bl_refl _) | exact hK.out _ _ rfl (bl_refl _)
                  · cases ho
                    have hB2 := hbf (by kernel_rfl); have u4 := keep hB2 (hT.1 9 _ rfl); rw [Nat.zero_add] at u4
                    have e2 : s 2 = _ := hs 2 (by decide) (by decide) (by kernel_rfl)
                    simp only [e2] at hK ⊢
                    simp only [Act.put, List.setIfInBounds_toArray, List.set_cons_zero, List.set_cons_succ] at hK
                    clear hs hne hbf
                    go_simp
                    all_goals first | with_reducible exact hK.out _ _ rfl (bl_refl _) | exact hK.out _ _ rfl (bl_refl _)
                  · cases ho
                    simp only [Act.put, List.setIfInBounds_toArray, List.set_cons_zero, List.set_cons_succ] at hK
                    clear hs hne hbf
                    go_simp
                    all_goals first | with_reducible exact hK.out _ _ rfl (bl_refl _) | exact hK.out _ _ rfl (bl_refl _)
                  · cases ho
                    have e4 : s 4 = _ := hs 4 (by decide) (by decide) (by kernel_rfl)
                    simp only [e4] at hK ⊢
                    simp only [Act.put, List.setIfInBounds_toArray, List.set_cons_zero, List.set_cons_succ] at hK
                    clear hs hne hbf
                    go_simp
                    all_goals first | with_reducible exact hK.out _ _ rfl (bl_refl _) | exact hK.out _ _ rfl (bl_refl _)
                  · cases ho
                    have e5 : s 5 = _ := hs 5 (by decide) (by decide) (by kernel_rfl)
                    simp only [e5] at hK ⊢
                    simp only [Act.put, List.setIfInBounds_toArray, List.set_cons_zero, List.set_cons_succ] at hK
                    clear hs hne hbf
                    go_simp
                    all_goals first | with_reducible exact hK.out _ _ rfl (bl_refl _) | exact hK.out _ _ rfl (bl_refl _)
                  · cases ho
                    have e6 : s 6 = _ := hs 6 (by decide) (by decide) (by kernel_rfl)
                    simp only [e6] at hK ⊢
                    simp only [Act.put, List.setIfInBounds_toArray, List.set_cons_zero, List.set_cons_succ] at hK
                    clear hs hne hbf
                    go_simp
                    all_goals first | with_reducible exact hK.out _ _ rfl (bl_refl _) | exact hK.out _ _ rfl (bl_refl _)
                  · cases ho
                    simp only [Act.put, List.setIfInBounds_toArray, List.set_cons_zero, List.set_cons_succ] at hK
                    clear hs hne hbf
                    go_simp
                    all_goals first | with_reducible exact hK.out _ _ rfl (bl_refl _) | exact hK.out _ _ rfl (bl_refl _)
                  · cases ho
                    simp only [Act.put, List.setIfInBounds_toArray, List.set_cons_zero, List.set_cons_succ] at hK
                    clear hs hne hbf
                    go_simp
                    all_goals first | with_reducible exact hK.out _ _ rfl (bl_refl _) | exact hK.out _ _ rfl (bl_refl _)
                  · cases ho
                    have e9 : s 9 = _ := hs 9 (by decide) (by decide) (by kernel_rfl)
                    simp only [e9] at hK ⊢
                    simp only [Act.put, List.setIfInBounds_toArray, List.set_cons_zero, List.set_cons_succ] at hK
                    clear hs hne hbf
                    go_simp
                    all_goals first | with_reducible exact hK.out _ _ rfl (bl_refl _) | exact hK.out _ _ rfl (bl_refl _)
                  · cases ho
                    have e8 : s 8 = _ := hs 8 (by decide) (by decide) (by kernel_rfl)
                    have e10 : s 10 = _ := hs 10 (by decide) (by decide) (by kernel_rfl)
                    simp only [e8, e10] at hK ⊢
                    simp only [Act.put, List.setIfInBounds_toArray, List.set_cons_zero, List.set_cons_succ] at hK
                    clear hs hne hbf
                    go_simp
                    all_goals first | with_reducible exact hK.out _ _ ⟨_, o_is _ hP (isF_r o7), rfl⟩ (by first | exact bl_refl _ | exact bl_drewN (bl_refl _) _ | exact bl_drew (bl_refl _)) | exact hK.out _ _ ⟨_, o_is _ hP (isF_r o7), rfl⟩ (by first | exact bl_refl _ | exact bl_drewN (bl_refl _) _ | exact bl_drew (bl_refl _)) | with_reducible exact hK.out _ _ rfl (bl_refl _) | exact hK.out _ _ rfl (bl_refl _)
                  · cases ho
                    have e7 : s 7 = _ := hs 7 (by decide) (by decide) (by kernel_rfl)
                    obtain ⟨p11, h11, e11⟩ := hs 11 (by decide) (by decide) (by kernel_rfl)
                    simp only [e7, e11] at hK ⊢
                    simp only [Act.put, List.setIfInBounds_toArray, List.set_cons_zero, List.set_cons_succ] at hK
                    clear hs hne hbf
                    go_simp
                    all_goals first | with_reducible exact hK.out _ _ ⟨_, o_is _ (isF_r obi) h11, rfl⟩ (by first | exact bl_refl _ | exact bl_drewN (bl_refl _) _ | exact bl_drew (bl_refl _)) | exact hK.out _ _ ⟨_, o_is _ (isF_r obi) h11, rfl⟩ (by first | exact bl_refl _ | exact bl_drewN (bl_refl _) _ | exact bl_drew (bl_refl _)) | with_reducible exact hK.out _ _ rfl (bl_refl _) | exact hK.out _ _ rfl (bl_refl _)
                  · cases ho
                    have e3 : s 3 = _ := hs 3 (by decide) (by decide) (by kernel_rfl)
                    obtain ⟨p12, h12, e12⟩ := hs 12 (by decide) (by decide) (by kernel_rfl)
                    simp only [e3, e12] at hK ⊢
                    simp only [Act.put, List.setIfInBounds_toArray, List.set_cons_zero, List.set_cons_succ] at hK
                    clear hs hne hbf
                    go_simp
                    all_goals first | with_reducible exact hK.out _ _ ⟨_, o_is _ hgs2 h12, rfl⟩ (by first | exact bl_refl _ | exact bl_drewN (bl_refl _) _ | exact bl_drew (bl_refl _)) | exact hK.out _ _ ⟨_, o_is _ hgs2 h12, rfl⟩ (by first | exact bl_refl _ | exact bl_drewN (bl_refl _) _ | exact bl_drew (bl_refl _)) | with_reducible exact hK.out _ _ rfl (bl_refl _) | exact hK.out _ _ rfl (bl_refl _)
                  · cases ho
                    have e0 : s 0 = _ := hs 0 (by decide) (by decide) (by kernel_rfl)
                    simp only [e0] at hK ⊢
                    simp only [Act.put, List.setIfInBounds_toArray, List.set_cons_zero, List.set_cons_succ] at hK
                    clear hs hne hbf
                    go_simp
                    all_goals first | with_reducible exact hK.out _ _ rfl (bl_refl _) | exact hK.out _ _ rfl (bl_refl _)
                  · cases ho
                    have e14 : s 14 = _ := hs 14 (by decide) (by decide) (by kernel_rfl)
                    simp only [e14] at hK ⊢
                    simp only [Act.put, List.setIfInBounds_toArray, List.set_cons_zero, List.set_cons_succ] at hK
                    clear hs hne hbf
                    go_simp
                    all_goals first | with_reducible exact hK.out _ _ rfl (bl_refl _) | exact hK.out _ _ rfl (bl_refl _)
                  · exact absurd rfl hne
                case ht_r1211 =>
                  intro s hs W0 W hb0 hb
                  have e0 : s 0 = _ := hs 0 (by decide) (by decide)
                  have e1 : s 1 = _ := hs 1 (by decide) (by decide)
                  have e2 : s 2 = _ := hs 2 (by decide) (by decide)
                  have e3 : s 3 = _ := hs 3 (by decide) (by decide)
                  have e4 : s 4 = _ := hs 4 (by decide) (by decide)
                  have e5 : s 5 = _ := hs 5 (by decide) (by decide)
                  have e6 : s 6 = _ := hs 6 (by decide) (by decide)
                  have e7 : s 7 = _ := hs 7 (by decide) (by decide)
                  have e8 : s 8 = _ := hs 8 (by decide) (by decide)
                  have e9 : s 9 = _ := hs 9 (by decide) (by decide)
                  have e10 : s 10 = _ := hs 10 (by decide) (by decide)
                  obtain ⟨p11, h11, e11⟩ := hs 11 (by decide) (by decide)
                  obtain ⟨p12, h12, e12⟩ := hs 12 (by decide) (by decide)
                  obtain ⟨p13, h13, e13⟩ := hs 13 (by decide) (by decide)
                  have e14 : s 14 = _ := hs 14 (by decide) (by decide)
                  have e15 : s 15 = _ := hs 15 (by decide) (by decide)
                  simp only [e0, e1, e2, e3, e4, e5, e6, e7, e8, e9, e10, e11, e12, e13, e14, e15]
                  rw [e13] at hb
                  clear hs e0 e1 e2 e3 e4 e5 e6 e7 e8 e9 e10 e11 e12 e13 e14 e15
                  have hR9 : Rd w W wr.heap.size a b fx fy fs v0 v1 p13 R.r4 R.r5 R.r7 := Rd.bel (Rd.put9 (Rd.bel (show Rd w cur wr.heap.size a b fx fy fs v0 v1 gs2 R.r4 R.r5 R.r7 from ⟨hB9, hT, hg, hU, hz, hgz⟩) hb0) hG) hb
                  clear hb0 hb hB9 hT hg hU hz hgz cur W0
                  have hn2 := h13
                  generalize p13 = v2 at hn2 hR9
                  obtain ⟨hB9, hT, hg, hU, hz, hgz⟩ := hR9
                  have ki : W.cell? ⟨w.heap.size, 6, none⟩ = some (.float .f64 b.si) := hT.1 6 _ rfl
                  go_wp2
                  refine ⟨⟨1 + 1, by omega, by go_num, _, _, _, _, _, _, hB9, hT, hU, hz, hfx, hfy, hfs, puX_yes hm hn0, puX_yes hm hn1, puT_yes hi hn2⟩, by simp [intOf] <;> omega⟩
    · obtain rfl : k = 2 := by omega
      obtain ⟨hT1, hT2⟩ := hT
      simp only [Nat.reduceEqDiff, Nat.reduceLeDiff, if_false] at hfx hfy hfs hgx2 hgy2 hgs2
      repeat (first | (with_reducible show Oper.wp _ _ _ _ _ _; refine wp_load_mid (P := Try.prog) 98 _ rfl (w.heap.size) 0 rfl [.float .f64 a.sm, .float .f64 a.si, .float .f64 fx, .float .f64 fy, .float .f64 fs, .float .f64 b.sm, .float .f64 b.si, .float .f64 gx2, .float .f64 gy2, .float .f64 gs2] _ hT1 Try.underlying98 rfl (by kernel_rfl) ?_; simp only [go_sem]) | ((with_reducible show Oper.wp _ { dst := _, op := Op.store 98 _ _, type := _, pos := _, after := _, guard := _ } _ _ _ _); refine wp_store_mid (P := Try.prog) 98 _ _ rfl (w.heap.size + 1 + 1) (0) #[.float .f64 a.sm, .float .f64 a.si, .float .f64 fx, .float .f64 fy, .float .f64 fs, .float .f64 b.sm, .float .f64 b.si, .float .f64 gx2, .float .f64 gy2, .float .f64 gs2] rfl rfl hU (by kernel_rfl) (by kernel_rfl) ?_; simp only [go_sem]) | go_values | go_skip | go_guarded | go_step | go_upon | go_back | dsimp only)
      refine bodyPost_ret (results_c (c := 6) (ty := 98) rfl rfl (run_loadVar_mid _ (w.heap.size + 1 + 1) 0 98 [.float .f64 a.sm, .float .f64 a.si, .float .f64 fx, .float .f64 fy, .float .f64 fs, .float .f64 b.sm, .float .f64 b.si, .float .f64 gx2, .float .f64 gy2, .float .f64 gs2] _ (World.rangeAt_setCells_same _ _ _ _ hU) Try.underlying98 rfl (by kernel_rfl))) rfl ⟨fx, fy, fs, gx2, gy2, gs2, hfx, hfy, hfs, hgx2, hgy2, hgs2, rfl, ?_⟩
      exact bel_setsJ _ _ hB (by omega)

end Go.Proofs.Ytfohggiehbplkaa
