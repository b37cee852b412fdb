/-
  What each function of package grid answers: one contract a function.
-/
import Derived.Test.YtekhnolpgoejdabGi
import Derived.Laws.FloatArith
import Derived.Laws.StructEq
import Derived.Deep.DeepCutAuto
import Derived.Laws.MakeOwn
import Derived.RangeFuncNested
import Derived.RangeFuncBound
import Derived.RangeFuncCalls
import Derived.RangeFuncLeaves
import Derived.Shelf.Abstract
import Derived.Shelf.RegionOpen
import Derived.OwnWalkIn
import Derived.TacticsInMore
import Derived.LoopNIn
import Derived.LoopIn
import Derived.Maps.OwnIn
import Derived.Sort.LoopGhostIn
import Derived.Below
import Derived.BigQuiet
import Derived.OwnWalk
import Derived.Laws.AppendOwn
import Derived.Laws.AppendOwnNone
import Derived.WalkKit
import Derived.WalkLawsBesides
import Derived.WalkSpells
import Derived.ProofKit
import Derived.OpenShut
import Derived.Deep.RegionHeld3
import Derived.Deep.LoopGhost
namespace Go.Proofs.Ytekhnolpgoejdab
open Go.ChangeShapes Go.WideShapes Go.ChangeAt Go.RowKit Go.Shelf Go.Lib Go.Sort
set_option linter.unusedVariables false
set_option linter.unusedSimpArgs false


attribute [local go_sem] Oper.semAt_some
/-- what holds at the head of lay's loop -/
def LI (w W : World) (n : Nat) (sa : Option Addr) (cap d : Nat) (B : Nat → Bo) (k m : Nat) (ds : List Deferred) (Ds : List Nat) (v3 v4 : Value) (M : List En) (ck : Nat) : Prop := k ≤ n ∧ n - k ≤ m ∧ ds.map (fun d => d.target) = Ds.map Target.collected ∧ Ds.Nodup ∧ (∀ D, D ∈ Ds → w.heap.size + 4 ≤ D ∧ W.heap[D]? = some (.deferred (some []))) ∧
  LayS W w.heap.size n sa cap (fun i => spO d (B i)) (fun i => mayO (B i)) k v3 v4 M ck (nums (smB B d) k) (nums (wdB B d) k) (grF B d k) ∧ Below w.heap.size w W
theorem lay_I {w W : World} {n : Nat} {sa : Option Addr} {cap d : Nat} {B : Nat → Bo} {k m : Nat} {ds : List Deferred} {Ds : List Nat} {v3 v4 : Value} {M : List En} {ck : Nat} {kk : Int} {y6 y7 y8 y9 y20 y21 y22 y23 y24 y25 y26 y27 y28 y29 y30 y31 y32 y33 y34 y35 y36 y37 y38 y39 y40 y41 y42 y43 y44 y45 y46 y47 y48 y49 y50 y51 y52 y53 y54 y55 y56 y57 y58 y59 y60 y61 y62 y63 y64 y65 y66 y67 y68 y69 y70 y71 y72 y73 y74 y75 y76 y77 y78 y79 y80 : Value} (hk : kk = (k : Int)) (h : LI w W n sa cap d B k m ds Ds v3 v4 M ck) :
    ∃ (k : Nat) (ds' : List Deferred) (Ds : List Nat) (v3 v4 : Value) (M : List En) (ck : Nat) (u : Nat → Value), ({ tmps := #[.slice sa n cap, .float .f64 d, undef, undef, .pointer none, .pointer (some ⟨w.heap.size + 1 + 1 + 1, 0, none⟩), y6, y7, y8, y9, .slice sa n cap, .slice sa n cap, .int .i64 (n : Int), .slice (some ⟨w.heap.size, 0, none⟩) n n, .map (some (w.heap.size + 1)), .agg #[.slice sa n cap, .slice (some ⟨w.heap.size, 0, none⟩) n n, .map (some (w.heap.size + 1)), .slice none 0 0, .slice none 0 0, .slice none 0 0], .pointer (some ⟨w.heap.size + 1 + 1, 0, none⟩), .slice sa n cap, .int .i64 (n : Int), .int .i64 kk, y20, y21, y22, y23, y24, y25, y26, y27, y28, y29, y30, y31, y32, y33, y34, y35, y36, y37, y38, y39, y40, y41, y42, y43, y44, y45, y46, y47, y48, y49, y50, y51, y52, y53, y54, y55, y56, y57, y58, y59, y60, y61, y62, y63, y64, y65, y66, y67, y68, y69, y70, y71, y72, y73, y74, y75, y76, y77, y78, y79, y80], defers := ds } : Act) = { tmps := #[.slice sa n cap, .float .f64 d, undef, undef, .pointer none, .pointer (some ⟨w.heap.size + 1 + 1 + 1, 0, none⟩), u 6, u 7, u 8, u 9, .slice sa n cap, .slice sa n cap, .int .i64 (n : Int), .slice (some ⟨w.heap.size, 0, none⟩) n n, .map (some (w.heap.size + 1)), .agg #[.slice sa n cap, .slice (some ⟨w.heap.size, 0, none⟩) n n, .map (some (w.heap.size + 1)), .slice none 0 0, .slice none 0 0, .slice none 0 0], .pointer (some ⟨w.heap.size + 1 + 1, 0, none⟩), .slice sa n cap, .int .i64 (n : Int), .int .i64 (k : Int), u 20, u 21, u 22, u 23, u 24, u 25, u 26, u 27, u 28, u 29, u 30, u 31, u 32, u 33, u 34, u 35, u 36, u 37, u 38, u 39, u 40, u 41, u 42, u 43, u 44, u 45, u 46, u 47, u 48, u 49, u 50, u 51, u 52, u 53, u 54, u 55, u 56, u 57, u 58, u 59, u 60, u 61, u 62, u 63, u 64, u 65, u 66, u 67, u 68, u 69, u 70, u 71, u 72, u 73, u 74, u 75, u 76, u 77, u 78, u 79, u 80], defers := ds' } ∧ LI w W n sa cap d B k m ds' Ds v3 v4 M ck := by
  subst hk
  exact ⟨k, ds, Ds, v3, v4, M, ck, fun i => match i with | 6 => y6 | 7 => y7 | 8 => y8 | 9 => y9 | 20 => y20 | 21 => y21 | 22 => y22 | 23 => y23 | 24 => y24 | 25 => y25 | 26 => y26 | 27 => y27 | 28 => y28 | 29 => y29 | 30 => y30 | 31 => y31 | 32 => y32 | 33 => y33 | 34 => y34 | 35 => y35 | 36 => y36 | 37 => y37 | 38 => y38 | 39 => y39 | 40 => y40 | 41 => y41 | 42 => y42 | 43 => y43 | 44 => y44 | 45 => y45 | 46 => y46 | 47 => y47 | 48 => y48 | 49 => y49 | 50 => y50 | 51 => y51 | 52 => y52 | 53 => y53 | 54 => y54 | 55 => y55 | 56 => y56 | 57 => y57 | 58 => y58 | 59 => y59 | 60 => y60 | 61 => y61 | 62 => y62 | 63 => y63 | 64 => y64 | 65 => y65 | 66 => y66 | 67 => y67 | 68 => y68 | 69 => y69 | 70 => y70 | 71 => y71 | 72 => y72 | 73 => y73 | 74 => y74 | 75 => y75 | 76 => y76 | 77 => y77 | 78 => y78 | 79 => y79 | 80 => y80 | _ => undef, rfl, h⟩
theorem marks_bel {W W' : World} {D : Nat} {o : Obj} (b : Bel W W') (h : W.heap[D]? = some o) : W'.heap[D]? = some o := (b.1.block D (Array.getElem?_eq_some_iff.1 h).1).trans h
theorem fresh_fz {W : World} {b i : Nat} (h : W.heap.size ≤ b) : W.frozen? ⟨b, i, none⟩ = false := by simp [World.frozen?, Array.getElem?_eq_none h]
def P4 (b : Nat) (W : World) (x : Value) : Prop := ∃ g, x = .pointer (some ⟨g, 0, none⟩) ∧ b ≤ g ∧ ∃ a c d e, W.cell? ⟨g, 0, none⟩ = some a ∧ W.cell? ⟨g, 1, none⟩ = some c ∧ W.cell? ⟨g, 2, none⟩ = some d ∧ W.cell? ⟨g, 3, none⟩ = some e
theorem P4.bel {b : Nat} {W W' : World} {x : Value} (h : P4 b W x) (g : Bel W W') : P4 b W' x := by
  obtain ⟨p, e, h1, a, c, d, f, h2, h3, h4, h5⟩ := h
  exact ⟨p, e, h1, a, c, d, f, keep g h2, keep g h3, keep g h4, keep g h5⟩
theorem p4_new {b : Nat} {W : World} {x y z u : Value} {t : TypeId} (h : b ≤ W.heap.size) : P4 b (W.alloc (.cells #[x, y, z, u] t)) (.pointer (some ⟨W.heap.size, 0, none⟩)) :=
  ⟨_, rfl, h, x, y, z, u, by rw [World.cell?_alloc_new]; rfl, by rw [World.cell?_alloc_new]; rfl, by rw [World.cell?_alloc_new]; rfl, by rw [World.cell?_alloc_new]; rfl⟩
/-- a span that lies in a block laid since -/
def S4 (b : Nat) (W : World) (x : Value) (s : Sp4) : Prop := ∃ g, x = .pointer (some ⟨g, 0, none⟩) ∧ b ≤ g ∧ W.cell? ⟨g, 0, none⟩ = some (.int .i64 s.1.1) ∧ W.cell? ⟨g, 1, none⟩ = some (.int .i64 s.1.2) ∧ W.cell? ⟨g, 2, none⟩ = some (.int .i64 s.2.1) ∧ W.cell? ⟨g, 3, none⟩ = some (.int .i64 s.2.2)
theorem s4_put {b g : Nat} {W : World} {x : Value} {s : Sp4} {a0 a1 a2 a3 : Value} (e : x = .pointer (some ⟨g, 0, none⟩)) (h : b ≤ g) (h0 : W.cell? ⟨g, 0, none⟩ = some a0) (h1 : W.cell? ⟨g, 1, none⟩ = some a1) (h2 : W.cell? ⟨g, 2, none⟩ = some a2) (h3 : W.cell? ⟨g, 3, none⟩ = some a3) : S4 b ((((W.setCell ⟨g, 0, none⟩ (.int .i64 s.1.1)).setCell ⟨g, 1, none⟩ (.int .i64 s.1.2)).setCell ⟨g, 2, none⟩ (.int .i64 s.2.1)).setCell ⟨g, 3, none⟩ (.int .i64 s.2.2)) x s := by
  obtain ⟨W', rfl, c0, c1, c2, c3, _⟩ := put4_all (p := .int .i64 s.1.1) (q := .int .i64 s.1.2) (r := .int .i64 s.2.1) (s := .int .i64 s.2.2) h0 h1 h2 h3
  exact ⟨g, e, h, c0, c1, c2, c3⟩
theorem info_span : (Try.prog.info? 81).map (fun i => (i.zero, i.size, i.bytes)) = some (some (.agg #[.int .i64 0, .int .i64 0, .int .i64 0, .int .i64 0]), 4, 32) := by kernel_rfl
theorem make_span (n : Nat) (hn : n ≤ 1000) (W : World) : (Instr.makeSlice 57 (.int .i64 n) (.int .i64 n)).run Try.prog W = .ok (.slice (some ⟨W.heap.size, 0, none⟩) n n) (W.alloc (.cells (madeCells #[.int .i64 0, .int .i64 0, .int .i64 0, .int .i64 0] (n * 4)) 81)) := by
  exact run_make (P := Try.prog) W 57 81 Try.t81 (.agg #[.int .i64 0, .int .i64 0, .int .i64 0, .int .i64 0]) Try.underlying57 (by kernel_rfl) (by kernel_rfl) .i64 .i64 n n (by omega) (by omega) (by show ((32 : Nat) : Int) * n ≤ _; omega) (by omega)

theorem one_int {k : Int} : ∀ u ∈ ([.int .i64 k] : List Value), u.oneCell' = true := by
  intro u hu
  simp only [List.mem_cons, List.not_mem_nil, or_false] at hu
  subst hu; rfl
theorem oper_appi {o : Oper} {A : Act} {w w' : World} {v u v' : Value} {K : Act → World → Prop} {C : Exit → Act → World → Prop} (s x : Operand) (ho : o.op = .call { callee := .builtin .append, args := #[s, x], argTypes := #[29, 29] }) (hv : A.eval s = v) (hx : A.eval x = u)
    (hrun : (Builtin.append_ #[29, 29] o.type #[v, u]).run Try.prog w = .ok v' w') (hK : K (A.put o.dst v') w') : Oper.wp Try.prog o A w K C := by
  unfold Oper.wp
  simp [execOp, ho, resolve, invoke, builtin, hv, hx, hrun, Result.andThen]
  exact hK
theorem lay_ne {W : World} {s0 n : Nat} {sa : Option Addr} {cap : Nat} {S : Nat → Sp4} {V : Nat → Bool} {k : Nat} {v3 v4 v : Value} {M : List En} {ck : Nat} {Sm Wd : List Nat} {F : Ce → List Nat} (h : LayS W s0 n sa cap S V k v3 v4 M ck Sm Wd F) (hv : v ∈ v3 :: v4 :: M.map (·.2.1)) : vb v ≠ some (s0 + 2) := fun e => by
  have := (h.obj v hv _ e).1; omega
theorem lay_ne3 {W : World} {s0 n : Nat} {sa : Option Addr} {cap : Nat} {S : Nat → Sp4} {V : Nat → Bool} {k : Nat} {v3 v4 v : Value} {M : List En} {ck : Nat} {Sm Wd : List Nat} {F : Ce → List Nat} (h : LayS W s0 n sa cap S V k v3 v4 M ck Sm Wd F) (hv : v ∈ v3 :: v4 :: M.map (·.2.1)) : vb v ≠ some (s0 + 1 + 1 + 1) := fun e => by
  have := (h.obj v hv _ e).1; omega
theorem rw_ne {W : World} {g b : Nat} {M : List En} {ck : Nat} {x : Value} (h : Rw W g 0 [x]) (hm : Mp W b M ck) : g ≠ b := by
  rintro rfl
  have := h 0 x rfl
  unfold World.cell? at this
  simp only at this
  rw [show W.heap[g]? = _ from hm] at this
  cases this
theorem Rw.heap {W W' : World} {g o : Nat} {R : List Value} (h : Rw W g o R) (e : W'.heap[g]? = W.heap[g]?) : Rw W' g o R := fun j u hj => (heap_cell_eq e _).trans (h j u hj)
/-- a range over the cells of a span -/
theorem range_ce {P : Program} {g : Operand} {pa po : Nat} {assign body : Code} {Q : Exit → Act → World → Prop} {a : Act} {w : World} {n : Nat} (h1 : 1 ≤ n) {gf : Nat} {lb : Array Value} (hg : a.eval g = .func (.func gf) #[] lb) (eg : ∀ args w, (callFunc gf args).run P w = .ok (.enter gf args) w)
    (q N : Nat) (cs : List Ce) (hseq : SeqStopsK Fence.wide (n - 1) P gf lb (fun c : Ce => #[ceV c]) (KpQ q) (fun xs => xs = cs) (fun _ => True) N w) (hq : q < w.heap.size)
    (I : List Ce → World → Prop) (hI : OwnFrom w.heap.size I) (h0 : I [] w)
    (hassign : ∀ (l : Nat) (pre : List Ce) (x : Ce) (W : World) (K : Act → World → Prop), I pre W → (∀ bx W', KeepsFrom w.heap.size W W' → KpQ q W W' → I pre W' → W'.cell? ⟨bx, 0, none⟩ = some (.int .i64 x.1) → W'.cell? ⟨bx, 1, none⟩ = some (.int .i64 x.2) → K { tmps := (a.tmps.setIfInBounds pa (ceV x)).setIfInBounds po (.pointer (some ⟨bx, 0, none⟩)), defers := [] } W') →
      assign.wpIn (Fence.wide.inRound l) (n - 1 - 1) P (Exit.then K (fun _ _ _ => False)) { tmps := a.tmps.setIfInBounds pa (ceV x), defers := [] } W)
    (hbody : ∀ (l : Nat) (pre : List Ce) (x : Ce) (bx : Nat) (W : World), I pre W → W.cell? ⟨bx, 0, none⟩ = some (.int .i64 x.1) → W.cell? ⟨bx, 1, none⟩ = some (.int .i64 x.2) → pre.length < N → body.wpIn (Fence.wide.inRound l) (n - 1 - 1) P (ownPostG w.heap.size (KpQ q) I (fun _ _ _ => False) (pre ++ [x]) W) { tmps := (a.tmps.setIfInBounds pa (ceV x)).setIfInBounds po (.pointer (some ⟨bx, 0, none⟩)), defers := [] } W)
    (hdone : ∀ (D : Nat) (W : World), w.heap.size ≤ D → I cs W → W.heap[D]? = some (.deferred (some [])) → Q .normal { a with defers := { target := .collected D, args := #[] } :: a.defers } W) :
    (Code.rangeFunc g #[pa] assign body).wpIn Fence.wide n P Q a w := by
  refine wpIn_rangeFunc_ownH rfl h1 hg trivial eg hseq (fun h k o => (k o).trans (h o)) (fun W l o o' hl ho _ _ x => ?_) (Below.refl _ _) (fun _ => rfl) I (fun _ _ _ => False) hI (fun _ _ _ _ _ hs _ _ => hs) h0
    (fun x a' W => ∃ bx, W.cell? ⟨bx, 0, none⟩ = some (.int .i64 x.1) ∧ W.cell? ⟨bx, 1, none⟩ = some (.int .i64 x.2) ∧ a' = { tmps := (a.tmps.setIfInBounds pa (ceV x)).setIfInBounds po (.pointer (some ⟨bx, 0, none⟩)), defers := [] }) ?_ ?_ ?_ ?_ ?_
  · exact heap_cell_eq (World.putObj_heap_other (show q ≠ l by omega)) x
  · rintro x a' _ X Y row ⟨bx, h2, h3, h4⟩ hgr hr
    have hk : Y.heap[bx]? = X.heap[bx]? := hgr.block bx (World.block_lt_of_cell? _ _ h2) (fun e => by
      obtain ⟨_, o, ho, hc⟩ := hr bx e.symm
      unfold World.cell? at h2
      simp only [ho] at h2
      cases o <;> first | cases h2 | cases hc)
    exact ⟨bx, (heap_cell_eq hk 0).trans h2, (heap_cell_eq hk 1).trans h3, h4⟩
  · intro l pre x W K hi hK
    have := hassign l pre x W K hi (fun bx W' k1 k2 k3 k4 k5 => hK _ W' k1 k2 k3 ⟨bx, k4, k5, rfl⟩)
    simpa using this
  · rintro l pre x a' W _ _ hi ⟨bx, h2, h3, rfl⟩ hlt
    exact hbody l pre x bx W hi h2 h3 hlt
  · rintro D xs W hD rfl hi hdd
    exact hdone D W hD hi hdd
  · rintro D c pre W _ _ h _
    exact h.elim

theorem zero_li (w : World) : (zeroValue 29).run Try.prog w = .ok (.slice none 0 0) w := by
  exact Try.zeroValue29 w
set_option maxRecDepth 100000 in
set_option maxHeartbeats 16000000 in
theorem lay_s (sa : Option Addr) (n cap d : Nat) (B : Nat → Bo) (w : World) (hA : AnyB w sa n B) (hn : n ≤ 200) (hd : mayW d = true) :
    Calls Try.prog 19 #[.slice sa n cap, .float .f64 d] w fun e w' => e = .returned (.pointer (some ⟨(w.heap.size + 2), 0, none⟩)) ∧ ∃ v3 v4 M ck, LayS w' w.heap.size n sa cap (fun i => spO d (B i)) (fun i => mayO (B i)) n v3 v4 M ck (nums (smB B d) n) (nums (wdB B d) n) (grF B d n) ∧ Below w.heap.size w w' := by
  have hmk := fun W => make_span n (by omega) W
  have hmm := @run_makeMap Try.prog
  refine callsIn_wide (n := 9).1 ?_
  refine callsIn_of_wp_marks Try.func19 rfl trivial ?_ rfl
  simp only [Try.ntmps19, List.size_toArray, List.length_cons, List.length_nil, Nat.reduceAdd, Nat.reduceSub, Array.replicate_succ, Array.replicate_zero, List.push_toArray, List.append_toArray, List.nil_append, List.cons_append]
  gi_wp2
  have hL0 := lay_start w n cap sa (fun i => spO d (B i)) (fun i => mayO (B i)) 81 60 53 (madeCells #[.int .i64 0, .int .i64 0, .int .i64 0, .int .i64 0] (n * 4)) (size_madeCells _ _) rfl
  have hB0 := ((((Below.refl w.heap.size w).alloc (Nat.le_refl _) (.cells (madeCells #[.int .i64 0, .int .i64 0, .int .i64 0, .int .i64 0] (n * 4)) 81)).alloc (by simp) (.map #[] 0)).alloc (by simp; omega) (.cells #[.slice sa n cap, .slice (some ⟨w.heap.size, 0, none⟩) n n, .map (some (w.heap.size + 1)), .slice none 0 0, .slice none 0 0, .slice none 0 0] 60)).alloc (by simp; omega) (.cells #[.pointer (some ⟨w.heap.size + 1 + 1, 0, none⟩)] 53)
  refine wpIn_loop_ghost_k (fun m a W => ∃ (k : Nat) (ds : List Deferred) (Ds : List Nat) (v3 v4 : Value) (M : List En) (ck : Nat) (u : Nat → Value), a = { tmps := #[.slice sa n cap, .float .f64 d, undef, undef, .pointer none, .pointer (some ⟨w.heap.size + 1 + 1 + 1, 0, none⟩), u 6, u 7, u 8, u 9, .slice sa n cap, .slice sa n cap, .int .i64 (n : Int), .slice (some ⟨w.heap.size, 0, none⟩) n n, .map (some (w.heap.size + 1)), .agg #[.slice sa n cap, .slice (some ⟨w.heap.size, 0, none⟩) n n, .map (some (w.heap.size + 1)), .slice none 0 0, .slice none 0 0, .slice none 0 0], .pointer (some ⟨w.heap.size + 1 + 1, 0, none⟩), .slice sa n cap, .int .i64 (n : Int), .int .i64 (k : Int), u 20, u 21, u 22, u 23, u 24, u 25, u 26, u 27, u 28, u 29, u 30, u 31, u 32, u 33, u 34, u 35, u 36, u 37, u 38, u 39, u 40, u 41, u 42, u 43, u 44, u 45, u 46, u 47, u 48, u 49, u 50, u 51, u 52, u 53, u 54, u 55, u 56, u 57, u 58, u 59, u 60, u 61, u 62, u 63, u 64, u 65, u 66, u 67, u 68, u 69, u 70, u 71, u 72, u 73, u 74, u 75, u 76, u 77, u 78, u 79, u 80], defers := ds } ∧ LI w W n sa cap d B k m ds Ds v3 v4 M ck) n ?h0 ?round
  case h0 => exact ⟨0, [], [], .slice none 0 0, .slice none 0 0, [], 0, fun _ => undef, rfl, by omega, by omega, rfl, List.nodup_nil, fun D h => (by cases h), hL0, hB0⟩
  case round =>
    intro m a Wr hI J Kr hJ hKr
    obtain ⟨k, ds, Ds, v3, v4, M, ck, u, rfl, hkn, hm, hds, hnd, hD, hLS, hBl⟩ := hI
    clear hL0 hB0
    by_cases hlt : k < n
    · obtain ⟨b, off, rfl, hBs, hb⟩ : ∃ b off, sa = some ⟨b, off, none⟩ ∧ Bs w b off n B ∧ b < w.heap.size := by
        rcases hA with h0 | h0
        · omega
        · exact h0
      obtain ⟨x0, x1, x2, x3⟩ := (hBs.below hBl) k hlt
      have hkz : (k : Int) < (n : Int) := by omega
      have hwk : IntKind.wrap .i64 ((k : Int) + 1) = (k : Int) + 1 := by rw [IntKind.wrap_i64]; omega
      cases hv : mayO (B k)
      · gi_wp2
        refine ⟨trivial, (callsIn_wide.2 (lies_s (B k) _)).mono ?_⟩
        rintro e w1 ⟨rfl, hb1⟩
        rw [hv]
        gi_wp2
        have bW : Bel Wr w1 := bl_trans (bl_alloc (bl_alloc (bl_refl Wr) _ _) _ _) hb1
        have hsm : smB B d k = false := by unfold smB; rw [hv]; rfl
        have hwd : wdB B d k = false := by unfold wdB; rw [hv]; rfl
        have hL1 := (hLS.skip hv).bel bW
        rw [← nums_no hsm, ← nums_no hwd, ← grF_no hsm] at hL1
        exact Handed.intro (n - (k + 1)) (by omega) (hJ _ _ _ (lay_I (Ds := Ds) (v3 := v3) (v4 := v4) (M := M) (ck := ck) (Int.natCast_succ k).symm ⟨by omega, by omega, hds, hnd, fun D h => ⟨(hD D h).1, marks_bel bW (hD D h).2⟩, hL1, hBl.trans (bW.1.mono hBl.size)⟩))
      · obtain ⟨n0, n1, n2, n3⟩ := may_nan4 hv
        have hd0 := hd
        have X0 : ((Wr.alloc (.cells #[.int .i64 (k : Int)] 3)).alloc (.cells #[.float .f64 (B k).1, .float .f64 (B k).2.1, .float .f64 (B k).2.2.1, .float .f64 (B k).2.2.2] 35)).cell? ⟨Wr.heap.size + 1, 0, none⟩ = some (.float .f64 (B k).1) := by simp
        have X1 : ((Wr.alloc (.cells #[.int .i64 (k : Int)] 3)).alloc (.cells #[.float .f64 (B k).1, .float .f64 (B k).2.1, .float .f64 (B k).2.2.1, .float .f64 (B k).2.2.2] 35)).cell? ⟨Wr.heap.size + 1, 1, none⟩ = some (.float .f64 (B k).2.1) := by simp
        have X2 : ((Wr.alloc (.cells #[.int .i64 (k : Int)] 3)).alloc (.cells #[.float .f64 (B k).1, .float .f64 (B k).2.1, .float .f64 (B k).2.2.1, .float .f64 (B k).2.2.2] 35)).cell? ⟨Wr.heap.size + 1, 2, none⟩ = some (.float .f64 (B k).2.2.1) := by simp
        have X3 : ((Wr.alloc (.cells #[.int .i64 (k : Int)] 3)).alloc (.cells #[.float .f64 (B k).1, .float .f64 (B k).2.1, .float .f64 (B k).2.2.1, .float .f64 (B k).2.2.2] 35)).cell? ⟨Wr.heap.size + 1, 3, none⟩ = some (.float .f64 (B k).2.2.2) := by simp
        have X4 : ((Wr.alloc (.cells #[.int .i64 (k : Int)] 3)).alloc (.cells #[.float .f64 (B k).1, .float .f64 (B k).2.1, .float .f64 (B k).2.2.1, .float .f64 (B k).2.2.2] 35)).cell? ⟨Wr.heap.size, 0, none⟩ = some (.int .i64 (k : Int)) := by simp
        gi_wp2
        refine ⟨trivial, (callsIn_wide.2 (lies_s (B k) _)).mono ?_⟩
        rintro e w1 ⟨rfl, hb1⟩
        rw [hv]
        have bW : Bel Wr w1 := bl_trans (bl_alloc (bl_alloc (bl_refl Wr) _ _) _ _) hb1
        have Y0 := keep hb1 X0
        have Y1 := keep hb1 X1
        have Y2 := keep hb1 X2
        have Y3 := keep hb1 X3
        have Y4 := keep hb1 X4
        clear X0 X1 X2 X3 X4 hb1 x0 x1 x2 x3
        gi_wp2
        obtain ⟨p7, hp7⟩ : ∃ p, p = Wr.heap.size + 1 := ⟨_, rfl⟩
        rw [← hp7] at Y0 Y1 Y2 Y3 ⊢
        clear hp7
        obtain ⟨p6, hp6⟩ : ∃ p, p = Wr.heap.size := ⟨_, rfl⟩
        rw [← hp6] at Y4 ⊢
        have hp6w : Wr.heap.size ≤ p6 := Nat.le_of_eq hp6.symm
        have hg8w : Wr.heap.size ≤ w1.heap.size := bW.size
        clear hp6
        refine wpIn_wide.2 ?_
        refine wp_region_inv 11 rfl (fun L s W => (∀ j, j < 11 → L j = true → (fun j v => match j with | 0 => v = .pointer (some ⟨p7, 0, none⟩) | 1 => v = .agg #[.float .f64 (B k).1, .float .f64 (B k).2.1] | 2 => v = .float .f64 d | 3 => v = ceV (coK (B k).1 d, coK (B k).2.1 d) | 4 => v = .pointer (some ⟨p7, 2, none⟩) | 5 => v = .agg #[.float .f64 (B k).2.2.1, .float .f64 (B k).2.2.2] | 6 => v = .float .f64 d | 7 => v = ceV (coK (B k).2.2.1 d, coK (B k).2.2.2 d) | 8 => v = .agg #[.int .i64 (coK (B k).1 d), .int .i64 (coK (B k).2.1 d), .int .i64 (coK (B k).2.2.1 d), .int .i64 (coK (B k).2.2.2 d)] | 9 => True | 10 => True | _ => True) j (s j)) ∧ (Bel w1 W ∧ (L 9 = true → L 10 = false → P4 w1.heap.size W (s 9)) ∧ (L 10 = true → S4 w1.heap.size W (s 9) (spO d (B k))))) ?A_w6 (by kernel_rfl) (by kernel_rfl) ?hA_w6 ?h0_w6 ?hq_w6 ?hJ_w6 ?ht_w6
        case hA_w6 =>
          intro s
          simp only [putL, dstO, Act.put, List.getElem?_toArray, List.getElem?_cons_zero, List.getElem?_cons_succ, Option.bind_some, List.setIfInBounds_toArray, List.set_cons_zero, List.set_cons_succ, if_true]
          all_goals exact rfl
        case h0_w6 => exact ⟨fun j _ h => (by cases h), ⟨bl_drew (bl_refl _), fun h => (by cases h), fun h => (by cases h)⟩⟩
        case hJ_w6 =>
          intro L L' s W h hj
          refine ⟨fun j hj2 hl => hj.1 j hj2 ((h j hj2).trans hl), ?_⟩
          have hj2 := hj.2
          rw [h 9 (by decide), h 10 (by decide)] at hj2
          exact hj2
        case hq_w6 =>
          intro i o hi ho L s W hLi hd hsh hj K hK
          obtain ⟨hV, hW⟩ := hj
          rcases (show i = 0 ∨ i = 1 ∨ i = 2 ∨ i = 3 ∨ i = 4 ∨ i = 5 ∨ i = 6 ∨ i = 7 ∨ i = 8 ∨ i = 9 ∨ i = 10 by omega) with rfl | rfl | rfl | rfl | rfl | rfl | rfl | rfl | rfl | rfl | rfl
          · cases ho
            simp only [Act.put, List.setIfInBounds_toArray, List.set_cons_zero, List.set_cons_succ] at hK
            go_simp
            all_goals first | with_reducible exact hK.out _ _ ⟨val_upd (VAL := (fun j v => match j with | 0 => v = .pointer (some ⟨p7, 0, none⟩) | 1 => v = .agg #[.float .f64 (B k).1, .float .f64 (B k).2.1] | 2 => v = .float .f64 d | 3 => v = ceV (coK (B k).1 d, coK (B k).2.1 d) | 4 => v = .pointer (some ⟨p7, 2, none⟩) | 5 => v = .agg #[.float .f64 (B k).2.2.1, .float .f64 (B k).2.2.2] | 6 => v = .float .f64 d | 7 => v = ceV (coK (B k).2.2.1 d, coK (B k).2.2.2 d) | 8 => v = .agg #[.int .i64 (coK (B k).1 d), .int .i64 (coK (B k).2.1 d), .int .i64 (coK (B k).2.2.1 d), .int .i64 (coK (B k).2.2.2 d)] | 9 => True | 10 => True | _ => True)) hV rfl, hW⟩ | exact hK.out _ _ ⟨val_upd (VAL := (fun j v => match j with | 0 => v = .pointer (some ⟨p7, 0, none⟩) | 1 => v = .agg #[.float .f64 (B k).1, .float .f64 (B k).2.1] | 2 => v = .float .f64 d | 3 => v = ceV (coK (B k).1 d, coK (B k).2.1 d) | 4 => v = .pointer (some ⟨p7, 2, none⟩) | 5 => v = .agg #[.float .f64 (B k).2.2.1, .float .f64 (B k).2.2.2] | 6 => v = .float .f64 d | 7 => v = ceV (coK (B k).2.2.1 d, coK (B k).2.2.2 d) | 8 => v = .agg #[.int .i64 (coK (B k).1 d), .int .i64 (coK (B k).2.1 d), .int .i64 (coK (B k).2.2.1 d), .int .i64 (coK (B k).2.2.2 d)] | 9 => True | 10 => True | _ => True)) hV rfl, hW⟩
          · cases ho
            have e0 : s 0 = _ := hV 0 (by decide) (hd 0 (by kernel_rfl))
            simp only [e0] at hK ⊢
            simp only [Act.put, List.setIfInBounds_toArray, List.set_cons_zero, List.set_cons_succ] at hK
            have t0 := keep hW.1 Y0
            have t1 := keep hW.1 Y1
            go_simp
            all_goals first | with_reducible exact hK.out _ _ ⟨val_upd (VAL := (fun j v => match j with | 0 => v = .pointer (some ⟨p7, 0, none⟩) | 1 => v = .agg #[.float .f64 (B k).1, .float .f64 (B k).2.1] | 2 => v = .float .f64 d | 3 => v = ceV (coK (B k).1 d, coK (B k).2.1 d) | 4 => v = .pointer (some ⟨p7, 2, none⟩) | 5 => v = .agg #[.float .f64 (B k).2.2.1, .float .f64 (B k).2.2.2] | 6 => v = .float .f64 d | 7 => v = ceV (coK (B k).2.2.1 d, coK (B k).2.2.2 d) | 8 => v = .agg #[.int .i64 (coK (B k).1 d), .int .i64 (coK (B k).2.1 d), .int .i64 (coK (B k).2.2.1 d), .int .i64 (coK (B k).2.2.2 d)] | 9 => True | 10 => True | _ => True)) hV rfl, hW⟩ | exact hK.out _ _ ⟨val_upd (VAL := (fun j v => match j with | 0 => v = .pointer (some ⟨p7, 0, none⟩) | 1 => v = .agg #[.float .f64 (B k).1, .float .f64 (B k).2.1] | 2 => v = .float .f64 d | 3 => v = ceV (coK (B k).1 d, coK (B k).2.1 d) | 4 => v = .pointer (some ⟨p7, 2, none⟩) | 5 => v = .agg #[.float .f64 (B k).2.2.1, .float .f64 (B k).2.2.2] | 6 => v = .float .f64 d | 7 => v = ceV (coK (B k).2.2.1 d, coK (B k).2.2.2 d) | 8 => v = .agg #[.int .i64 (coK (B k).1 d), .int .i64 (coK (B k).2.1 d), .int .i64 (coK (B k).2.2.1 d), .int .i64 (coK (B k).2.2.2 d)] | 9 => True | 10 => True | _ => True)) hV rfl, hW⟩
          · cases ho
            simp only [Act.put, List.setIfInBounds_toArray, List.set_cons_zero, List.set_cons_succ] at hK
            go_simp
            all_goals first | with_reducible exact hK.out _ _ ⟨val_upd (VAL := (fun j v => match j with | 0 => v = .pointer (some ⟨p7, 0, none⟩) | 1 => v = .agg #[.float .f64 (B k).1, .float .f64 (B k).2.1] | 2 => v = .float .f64 d | 3 => v = ceV (coK (B k).1 d, coK (B k).2.1 d) | 4 => v = .pointer (some ⟨p7, 2, none⟩) | 5 => v = .agg #[.float .f64 (B k).2.2.1, .float .f64 (B k).2.2.2] | 6 => v = .float .f64 d | 7 => v = ceV (coK (B k).2.2.1 d, coK (B k).2.2.2 d) | 8 => v = .agg #[.int .i64 (coK (B k).1 d), .int .i64 (coK (B k).2.1 d), .int .i64 (coK (B k).2.2.1 d), .int .i64 (coK (B k).2.2.2 d)] | 9 => True | 10 => True | _ => True)) hV rfl, hW⟩ | exact hK.out _ _ ⟨val_upd (VAL := (fun j v => match j with | 0 => v = .pointer (some ⟨p7, 0, none⟩) | 1 => v = .agg #[.float .f64 (B k).1, .float .f64 (B k).2.1] | 2 => v = .float .f64 d | 3 => v = ceV (coK (B k).1 d, coK (B k).2.1 d) | 4 => v = .pointer (some ⟨p7, 2, none⟩) | 5 => v = .agg #[.float .f64 (B k).2.2.1, .float .f64 (B k).2.2.2] | 6 => v = .float .f64 d | 7 => v = ceV (coK (B k).2.2.1 d, coK (B k).2.2.2 d) | 8 => v = .agg #[.int .i64 (coK (B k).1 d), .int .i64 (coK (B k).2.1 d), .int .i64 (coK (B k).2.2.1 d), .int .i64 (coK (B k).2.2.2 d)] | 9 => True | 10 => True | _ => True)) hV rfl, hW⟩
          · cases ho
            simp only [Act.put, List.setIfInBounds_toArray, List.set_cons_zero, List.set_cons_succ] at hK
            have h10 := not_yet hsh (k := 10) hLi (by decide) (by kernel_rfl) rfl
            have hW1 := hW.1
            have hW2 := hW.2.1
            clear hW
            have ea : s 1 = _ := hV 1 (by decide) (hd 1 (by kernel_rfl))
            have eb : s 2 = _ := hV 2 (by decide) (hd 2 (by kernel_rfl))
            simp only [ea, eb] at hK ⊢
            go_simp
            all_goals (try go_wp2_with (first | (go_at_call 37; (with_reducible refine (cellOf_s n0 n1 hd0 _).mono ?_); rintro e w' ⟨rfl, hb9⟩)))
            exact hK.out _ _ ⟨val_upd (VAL := (fun j v => match j with | 0 => v = .pointer (some ⟨p7, 0, none⟩) | 1 => v = .agg #[.float .f64 (B k).1, .float .f64 (B k).2.1] | 2 => v = .float .f64 d | 3 => v = ceV (coK (B k).1 d, coK (B k).2.1 d) | 4 => v = .pointer (some ⟨p7, 2, none⟩) | 5 => v = .agg #[.float .f64 (B k).2.2.1, .float .f64 (B k).2.2.2] | 6 => v = .float .f64 d | 7 => v = ceV (coK (B k).2.2.1 d, coK (B k).2.2.2 d) | 8 => v = .agg #[.int .i64 (coK (B k).1 d), .int .i64 (coK (B k).2.1 d), .int .i64 (coK (B k).2.2.1 d), .int .i64 (coK (B k).2.2.2 d)] | 9 => True | 10 => True | _ => True)) hV rfl, bl_trans hW1 hb9, fun h g => (hW2 h g).bel hb9, fun h => Bool.noConfusion (h10.symm.trans h)⟩
          · cases ho
            simp only [Act.put, List.setIfInBounds_toArray, List.set_cons_zero, List.set_cons_succ] at hK
            go_simp
            all_goals first | with_reducible exact hK.out _ _ ⟨val_upd (VAL := (fun j v => match j with | 0 => v = .pointer (some ⟨p7, 0, none⟩) | 1 => v = .agg #[.float .f64 (B k).1, .float .f64 (B k).2.1] | 2 => v = .float .f64 d | 3 => v = ceV (coK (B k).1 d, coK (B k).2.1 d) | 4 => v = .pointer (some ⟨p7, 2, none⟩) | 5 => v = .agg #[.float .f64 (B k).2.2.1, .float .f64 (B k).2.2.2] | 6 => v = .float .f64 d | 7 => v = ceV (coK (B k).2.2.1 d, coK (B k).2.2.2 d) | 8 => v = .agg #[.int .i64 (coK (B k).1 d), .int .i64 (coK (B k).2.1 d), .int .i64 (coK (B k).2.2.1 d), .int .i64 (coK (B k).2.2.2 d)] | 9 => True | 10 => True | _ => True)) hV rfl, hW⟩ | exact hK.out _ _ ⟨val_upd (VAL := (fun j v => match j with | 0 => v = .pointer (some ⟨p7, 0, none⟩) | 1 => v = .agg #[.float .f64 (B k).1, .float .f64 (B k).2.1] | 2 => v = .float .f64 d | 3 => v = ceV (coK (B k).1 d, coK (B k).2.1 d) | 4 => v = .pointer (some ⟨p7, 2, none⟩) | 5 => v = .agg #[.float .f64 (B k).2.2.1, .float .f64 (B k).2.2.2] | 6 => v = .float .f64 d | 7 => v = ceV (coK (B k).2.2.1 d, coK (B k).2.2.2 d) | 8 => v = .agg #[.int .i64 (coK (B k).1 d), .int .i64 (coK (B k).2.1 d), .int .i64 (coK (B k).2.2.1 d), .int .i64 (coK (B k).2.2.2 d)] | 9 => True | 10 => True | _ => True)) hV rfl, hW⟩
          · cases ho
            have e4 : s 4 = _ := hV 4 (by decide) (hd 4 (by kernel_rfl))
            simp only [e4] at hK ⊢
            simp only [Act.put, List.setIfInBounds_toArray, List.set_cons_zero, List.set_cons_succ] at hK
            have t2 := keep hW.1 Y2
            have t3 := keep hW.1 Y3
            go_simp
            all_goals first | with_reducible exact hK.out _ _ ⟨val_upd (VAL := (fun j v => match j with | 0 => v = .pointer (some ⟨p7, 0, none⟩) | 1 => v = .agg #[.float .f64 (B k).1, .float .f64 (B k).2.1] | 2 => v = .float .f64 d | 3 => v = ceV (coK (B k).1 d, coK (B k).2.1 d) | 4 => v = .pointer (some ⟨p7, 2, none⟩) | 5 => v = .agg #[.float .f64 (B k).2.2.1, .float .f64 (B k).2.2.2] | 6 => v = .float .f64 d | 7 => v = ceV (coK (B k).2.2.1 d, coK (B k).2.2.2 d) | 8 => v = .agg #[.int .i64 (coK (B k).1 d), .int .i64 (coK (B k).2.1 d), .int .i64 (coK (B k).2.2.1 d), .int .i64 (coK (B k).2.2.2 d)] | 9 => True | 10 => True | _ => True)) hV rfl, hW⟩ | exact hK.out _ _ ⟨val_upd (VAL := (fun j v => match j with | 0 => v = .pointer (some ⟨p7, 0, none⟩) | 1 => v = .agg #[.float .f64 (B k).1, .float .f64 (B k).2.1] | 2 => v = .float .f64 d | 3 => v = ceV (coK (B k).1 d, coK (B k).2.1 d) | 4 => v = .pointer (some ⟨p7, 2, none⟩) | 5 => v = .agg #[.float .f64 (B k).2.2.1, .float .f64 (B k).2.2.2] | 6 => v = .float .f64 d | 7 => v = ceV (coK (B k).2.2.1 d, coK (B k).2.2.2 d) | 8 => v = .agg #[.int .i64 (coK (B k).1 d), .int .i64 (coK (B k).2.1 d), .int .i64 (coK (B k).2.2.1 d), .int .i64 (coK (B k).2.2.2 d)] | 9 => True | 10 => True | _ => True)) hV rfl, hW⟩
          · cases ho
            simp only [Act.put, List.setIfInBounds_toArray, List.set_cons_zero, List.set_cons_succ] at hK
            go_simp
            all_goals first | with_reducible exact hK.out _ _ ⟨val_upd (VAL := (fun j v => match j with | 0 => v = .pointer (some ⟨p7, 0, none⟩) | 1 => v = .agg #[.float .f64 (B k).1, .float .f64 (B k).2.1] | 2 => v = .float .f64 d | 3 => v = ceV (coK (B k).1 d, coK (B k).2.1 d) | 4 => v = .pointer (some ⟨p7, 2, none⟩) | 5 => v = .agg #[.float .f64 (B k).2.2.1, .float .f64 (B k).2.2.2] | 6 => v = .float .f64 d | 7 => v = ceV (coK (B k).2.2.1 d, coK (B k).2.2.2 d) | 8 => v = .agg #[.int .i64 (coK (B k).1 d), .int .i64 (coK (B k).2.1 d), .int .i64 (coK (B k).2.2.1 d), .int .i64 (coK (B k).2.2.2 d)] | 9 => True | 10 => True | _ => True)) hV rfl, hW⟩ | exact hK.out _ _ ⟨val_upd (VAL := (fun j v => match j with | 0 => v = .pointer (some ⟨p7, 0, none⟩) | 1 => v = .agg #[.float .f64 (B k).1, .float .f64 (B k).2.1] | 2 => v = .float .f64 d | 3 => v = ceV (coK (B k).1 d, coK (B k).2.1 d) | 4 => v = .pointer (some ⟨p7, 2, none⟩) | 5 => v = .agg #[.float .f64 (B k).2.2.1, .float .f64 (B k).2.2.2] | 6 => v = .float .f64 d | 7 => v = ceV (coK (B k).2.2.1 d, coK (B k).2.2.2 d) | 8 => v = .agg #[.int .i64 (coK (B k).1 d), .int .i64 (coK (B k).2.1 d), .int .i64 (coK (B k).2.2.1 d), .int .i64 (coK (B k).2.2.2 d)] | 9 => True | 10 => True | _ => True)) hV rfl, hW⟩
          · cases ho
            simp only [Act.put, List.setIfInBounds_toArray, List.set_cons_zero, List.set_cons_succ] at hK
            have h10 := not_yet hsh (k := 10) hLi (by decide) (by kernel_rfl) rfl
            have hW1 := hW.1
            have hW2 := hW.2.1
            clear hW
            have ea : s 5 = _ := hV 5 (by decide) (hd 5 (by kernel_rfl))
            have eb : s 6 = _ := hV 6 (by decide) (hd 6 (by kernel_rfl))
            simp only [ea, eb] at hK ⊢
            go_simp
            all_goals (try go_wp2_with (first | (go_at_call 37; (with_reducible refine (cellOf_s n2 n3 hd0 _).mono ?_); rintro e w' ⟨rfl, hb9⟩)))
            exact hK.out _ _ ⟨val_upd (VAL := (fun j v => match j with | 0 => v = .pointer (some ⟨p7, 0, none⟩) | 1 => v = .agg #[.float .f64 (B k).1, .float .f64 (B k).2.1] | 2 => v = .float .f64 d | 3 => v = ceV (coK (B k).1 d, coK (B k).2.1 d) | 4 => v = .pointer (some ⟨p7, 2, none⟩) | 5 => v = .agg #[.float .f64 (B k).2.2.1, .float .f64 (B k).2.2.2] | 6 => v = .float .f64 d | 7 => v = ceV (coK (B k).2.2.1 d, coK (B k).2.2.2 d) | 8 => v = .agg #[.int .i64 (coK (B k).1 d), .int .i64 (coK (B k).2.1 d), .int .i64 (coK (B k).2.2.1 d), .int .i64 (coK (B k).2.2.2 d)] | 9 => True | 10 => True | _ => True)) hV rfl, bl_trans hW1 hb9, fun h g => (hW2 h g).bel hb9, fun h => Bool.noConfusion (h10.symm.trans h)⟩
          · cases ho
            have e3 : s 3 = _ := hV 3 (by decide) (hd 3 (by kernel_rfl))
            have e7 : s 7 = _ := hV 7 (by decide) (hd 7 (by kernel_rfl))
            simp only [e3, e7] at hK ⊢
            simp only [Act.put, List.setIfInBounds_toArray, List.set_cons_zero, List.set_cons_succ] at hK
            go_simp
            all_goals first | with_reducible exact hK.out _ _ ⟨val_upd (VAL := (fun j v => match j with | 0 => v = .pointer (some ⟨p7, 0, none⟩) | 1 => v = .agg #[.float .f64 (B k).1, .float .f64 (B k).2.1] | 2 => v = .float .f64 d | 3 => v = ceV (coK (B k).1 d, coK (B k).2.1 d) | 4 => v = .pointer (some ⟨p7, 2, none⟩) | 5 => v = .agg #[.float .f64 (B k).2.2.1, .float .f64 (B k).2.2.2] | 6 => v = .float .f64 d | 7 => v = ceV (coK (B k).2.2.1 d, coK (B k).2.2.2 d) | 8 => v = .agg #[.int .i64 (coK (B k).1 d), .int .i64 (coK (B k).2.1 d), .int .i64 (coK (B k).2.2.1 d), .int .i64 (coK (B k).2.2.2 d)] | 9 => True | 10 => True | _ => True)) hV rfl, hW⟩ | exact hK.out _ _ ⟨val_upd (VAL := (fun j v => match j with | 0 => v = .pointer (some ⟨p7, 0, none⟩) | 1 => v = .agg #[.float .f64 (B k).1, .float .f64 (B k).2.1] | 2 => v = .float .f64 d | 3 => v = ceV (coK (B k).1 d, coK (B k).2.1 d) | 4 => v = .pointer (some ⟨p7, 2, none⟩) | 5 => v = .agg #[.float .f64 (B k).2.2.1, .float .f64 (B k).2.2.2] | 6 => v = .float .f64 d | 7 => v = ceV (coK (B k).2.2.1 d, coK (B k).2.2.2 d) | 8 => v = .agg #[.int .i64 (coK (B k).1 d), .int .i64 (coK (B k).2.1 d), .int .i64 (coK (B k).2.2.1 d), .int .i64 (coK (B k).2.2.2 d)] | 9 => True | 10 => True | _ => True)) hV rfl, hW⟩
          · cases ho
            simp only [Act.put, List.setIfInBounds_toArray, List.set_cons_zero, List.set_cons_succ] at hK
            have h10 := not_yet hsh (k := 10) hLi (by decide) (by kernel_rfl) rfl
            have hW1 := hW.1
            clear hW
            go_simp
            exact hK.out _ _ ⟨val_upd (VAL := (fun j v => match j with | 0 => v = .pointer (some ⟨p7, 0, none⟩) | 1 => v = .agg #[.float .f64 (B k).1, .float .f64 (B k).2.1] | 2 => v = .float .f64 d | 3 => v = ceV (coK (B k).1 d, coK (B k).2.1 d) | 4 => v = .pointer (some ⟨p7, 2, none⟩) | 5 => v = .agg #[.float .f64 (B k).2.2.1, .float .f64 (B k).2.2.2] | 6 => v = .float .f64 d | 7 => v = ceV (coK (B k).2.2.1 d, coK (B k).2.2.2 d) | 8 => v = .agg #[.int .i64 (coK (B k).1 d), .int .i64 (coK (B k).2.1 d), .int .i64 (coK (B k).2.2.1 d), .int .i64 (coK (B k).2.2.2 d)] | 9 => True | 10 => True | _ => True)) hV trivial, bl_alloc hW1 _ _, fun _ _ => p4_new hW1.size, fun h => Bool.noConfusion (h10.symm.trans h)⟩
          · cases ho
            simp only [Act.put, List.setIfInBounds_toArray, List.set_cons_zero, List.set_cons_succ] at hK
            have hW1 := hW.1
            obtain ⟨g8, e9, hg8, a8, b8, c8, d8, k0, k1, k2, k3⟩ := hW.2.1 (hd 9 (by kernel_rfl)) hLi
            clear hW
            have e8 : s 8 = _ := hV 8 (by decide) (hd 8 (by kernel_rfl))
            simp only [e8, e9] at hK ⊢
            have z8 := fun o => (hW1.2 ⟨g8, o, none⟩).trans (fresh_fz hg8)
            obtain ⟨W9, hW9, y0, y1, y2, y3, _, hbl⟩ := put4_all (p := .int .i64 (coK (B k).1 d)) (q := .int .i64 (coK (B k).2.1 d)) (r := .int .i64 (coK (B k).2.2.1 d)) (s := .int .i64 (coK (B k).2.2.2 d)) k0 k1 k2 k3
            have hbl9 := hbl _ hW1 hg8
            clear hbl
            go_simp
            rw [← hW9]
            clear hW9
            exact hK.out undef W9 ⟨val_upd (VAL := (fun j v => match j with | 0 => v = .pointer (some ⟨p7, 0, none⟩) | 1 => v = .agg #[.float .f64 (B k).1, .float .f64 (B k).2.1] | 2 => v = .float .f64 d | 3 => v = ceV (coK (B k).1 d, coK (B k).2.1 d) | 4 => v = .pointer (some ⟨p7, 2, none⟩) | 5 => v = .agg #[.float .f64 (B k).2.2.1, .float .f64 (B k).2.2.2] | 6 => v = .float .f64 d | 7 => v = ceV (coK (B k).2.2.1 d, coK (B k).2.2.2 d) | 8 => v = .agg #[.int .i64 (coK (B k).1 d), .int .i64 (coK (B k).2.1 d), .int .i64 (coK (B k).2.2.1 d), .int .i64 (coK (B k).2.2.2 d)] | 9 => True | 10 => True | _ => True)) hV trivial, hbl9, fun _ h => (by simp [updL] at h), fun _ => ⟨g8, e9, hg8, y0, y1, y2, y3⟩⟩
        case ht_w6 =>
          intro s W hj
          obtain ⟨hV, hW⟩ := hj
          have e0 : s 0 = _ := hV 0 (by decide) rfl
          have e1 : s 1 = _ := hV 1 (by decide) rfl
          have e2 : s 2 = _ := hV 2 (by decide) rfl
          have e3 : s 3 = _ := hV 3 (by decide) rfl
          have e4 : s 4 = _ := hV 4 (by decide) rfl
          have e5 : s 5 = _ := hV 5 (by decide) rfl
          have e6 : s 6 = _ := hV 6 (by decide) rfl
          have e7 : s 7 = _ := hV 7 (by decide) rfl
          have e8 : s 8 = _ := hV 8 (by decide) rfl
          simp only [e0, e1, e2, e3, e4, e5, e6, e7, e8]
          clear hV e0 e1 e2 e3 e4 e5 e6 e7 e8
          obtain ⟨g8, e9, hg8, k0, k1, k2, k3⟩ := hW.2.2 rfl
          have hW1 := hW.1
          clear hW
          simp only [e9]
          have hR8 := rs_start hLS hBl hD (bl_trans bW hW1) hp6w (Nat.le_trans hg8w hg8) (keep hW1 Y4) (show SpC W g8 (spO d (B k)) from ⟨k0, k1, k2, k3⟩)
          clear hW1 Y0 Y1 Y2 Y3 Y4 k0 k1 k2 k3 e9 hg8 hp6w hg8w hLS hBl hD bW
          obtain ⟨w8, hw8⟩ : ∃ x, x = W := ⟨_, rfl⟩
          rw [← hw8] at hR8 ⊢
          clear hw8
          have hR8d := hR8.bel (bl_drew (bl_refl w8))
          
          have c5 : w8.cell? ⟨w.heap.size + 1 + 1 + 1, 0, none⟩ = some (.pointer (some ⟨w.heap.size + 2, 0, none⟩)) := hR8.lay.cg
          have c1 := hR8.lay.g6.c1
          have c2 := hR8.lay.g6.c2
          have c3 := hR8.lay.g6.c3
          have c4 := hR8.lay.g6.c4
          have ci := hR8.ci
          obtain ⟨k0, k1, k2, k3⟩ := hR8.cs
          simp only [spO] at k0 k1 k2 k3
          
          have z8 := hR8.lay.spF
          obtain ⟨a80, c80⟩ := Option.isSome_iff_exists.1 (hR8.lay.spX (k * 4) (by omega))
          obtain ⟨a81, c81⟩ := Option.isSome_iff_exists.1 (hR8.lay.spX (k * 4 + 1) (by omega))
          obtain ⟨a82, c82⟩ := Option.isSome_iff_exists.1 (hR8.lay.spX (k * 4 + 2) (by omega))
          obtain ⟨a83, c83⟩ := Option.isSome_iff_exists.1 (hR8.lay.spX (k * 4 + 3) (by omega))
          gi_wp2
          refine wpIn_wide.2 ?_
          refine wp_region_inv 8 rfl (fun L s W => (∀ j, j < 8 → L j = true → (fun j v => match j with | 0 => v = .pointer (some ⟨w.heap.size + 2, 0, none⟩) | 1 => v = .pointer (some ⟨w.heap.size + 2, 0, none⟩) | 2 => v = .pointer (some ⟨w.heap.size + 2, 1, none⟩) | 3 => v = .slice (some ⟨w.heap.size, 0, none⟩) n n | 4 => v = .int .i64 (k : Int) | 5 => v = .agg #[.int .i64 (coK (B k).1 d), .int .i64 (coK (B k).2.1 d), .int .i64 (coK (B k).2.2.1 d), .int .i64 (coK (B k).2.2.2 d)] | 6 => v = .pointer (some ⟨w.heap.size, k * 4, none⟩) | 7 => True | _ => True) j (s j)) ∧ ((L 7 = false → W = w8.drew) ∧ (L 7 = true → RS w W n (some ⟨b, off, none⟩) cap d B k (k + 1) v3 v4 M ck (nums (smB B d) k) (nums (wdB B d) k) (grF B d k) p6 g8 [] Ds))) ?A_w7 (by kernel_rfl) (by kernel_rfl) ?hA_w7 ?h0_w7 ?hq_w7 ?hJ_w7 ?ht_w7
          case hA_w7 =>
            intro s
            simp only [putL, dstO, Act.put, List.getElem?_toArray, List.getElem?_cons_zero, List.getElem?_cons_succ, Option.bind_some, List.setIfInBounds_toArray, List.set_cons_zero, List.set_cons_succ, if_true]
            all_goals exact rfl
          case h0_w7 => exact ⟨fun j _ h => (by cases h), ⟨fun _ => rfl, fun h => (by cases h)⟩⟩
          case hJ_w7 =>
            intro L L' s W h hj
            refine ⟨fun j hj2 hl => hj.1 j hj2 ((h j hj2).trans hl), ?_⟩
            have hj2 := hj.2
            rw [h 7 (by decide)] at hj2
            exact hj2
          case hq_w7 =>
            intro i o hi ho L s W hLi hd hsh hj K hK
            obtain ⟨hV, hW⟩ := hj
            rcases (show i = 0 ∨ i = 1 ∨ i = 2 ∨ i = 3 ∨ i = 4 ∨ i = 5 ∨ i = 6 ∨ i = 7 by omega) with rfl | rfl | rfl | rfl | rfl | rfl | rfl | rfl
            · cases ho
              simp only [Act.put, List.setIfInBounds_toArray, List.set_cons_zero, List.set_cons_succ] at hK
              have h7 := not_yet hsh (k := 7) hLi (by decide) (by kernel_rfl) rfl
              have hw := hW.1 h7
              subst hw
              clear hsh hd
              clear hW
              go_simp
              all_goals first | with_reducible exact hK.out _ _ ⟨val_upd (VAL := (fun j v => match j with | 0 => v = .pointer (some ⟨w.heap.size + 2, 0, none⟩) | 1 => v = .pointer (some ⟨w.heap.size + 2, 0, none⟩) | 2 => v = .pointer (some ⟨w.heap.size + 2, 1, none⟩) | 3 => v = .slice (some ⟨w.heap.size, 0, none⟩) n n | 4 => v = .int .i64 (k : Int) | 5 => v = .agg #[.int .i64 (coK (B k).1 d), .int .i64 (coK (B k).2.1 d), .int .i64 (coK (B k).2.2.1 d), .int .i64 (coK (B k).2.2.2 d)] | 6 => v = .pointer (some ⟨w.heap.size, k * 4, none⟩) | 7 => True | _ => True)) hV rfl, ⟨fun _ => rfl, fun h => Bool.noConfusion (h7.symm.trans h)⟩⟩ | exact hK.out _ _ ⟨val_upd (VAL := (fun j v => match j with | 0 => v = .pointer (some ⟨w.heap.size + 2, 0, none⟩) | 1 => v = .pointer (some ⟨w.heap.size + 2, 0, none⟩) | 2 => v = .pointer (some ⟨w.heap.size + 2, 1, none⟩) | 3 => v = .slice (some ⟨w.heap.size, 0, none⟩) n n | 4 => v = .int .i64 (k : Int) | 5 => v = .agg #[.int .i64 (coK (B k).1 d), .int .i64 (coK (B k).2.1 d), .int .i64 (coK (B k).2.2.1 d), .int .i64 (coK (B k).2.2.2 d)] | 6 => v = .pointer (some ⟨w.heap.size, k * 4, none⟩) | 7 => True | _ => True)) hV rfl, ⟨fun _ => rfl, fun h => Bool.noConfusion (h7.symm.trans h)⟩⟩
            · cases ho
              have e0 : s 0 = _ := hV 0 (by decide) (hd 0 (by kernel_rfl))
              simp only [e0] at hK ⊢
              simp only [Act.put, List.setIfInBounds_toArray, List.set_cons_zero, List.set_cons_succ] at hK
              have h7 := not_yet hsh (k := 7) hLi (by decide) (by kernel_rfl) rfl
              have hw := hW.1 h7
              subst hw
              clear hW
              go_simp
              all_goals first | with_reducible exact hK.out _ _ ⟨val_upd (VAL := (fun j v => match j with | 0 => v = .pointer (some ⟨w.heap.size + 2, 0, none⟩) | 1 => v = .pointer (some ⟨w.heap.size + 2, 0, none⟩) | 2 => v = .pointer (some ⟨w.heap.size + 2, 1, none⟩) | 3 => v = .slice (some ⟨w.heap.size, 0, none⟩) n n | 4 => v = .int .i64 (k : Int) | 5 => v = .agg #[.int .i64 (coK (B k).1 d), .int .i64 (coK (B k).2.1 d), .int .i64 (coK (B k).2.2.1 d), .int .i64 (coK (B k).2.2.2 d)] | 6 => v = .pointer (some ⟨w.heap.size, k * 4, none⟩) | 7 => True | _ => True)) hV rfl, ⟨fun _ => rfl, fun h => Bool.noConfusion (h7.symm.trans h)⟩⟩ | exact hK.out _ _ ⟨val_upd (VAL := (fun j v => match j with | 0 => v = .pointer (some ⟨w.heap.size + 2, 0, none⟩) | 1 => v = .pointer (some ⟨w.heap.size + 2, 0, none⟩) | 2 => v = .pointer (some ⟨w.heap.size + 2, 1, none⟩) | 3 => v = .slice (some ⟨w.heap.size, 0, none⟩) n n | 4 => v = .int .i64 (k : Int) | 5 => v = .agg #[.int .i64 (coK (B k).1 d), .int .i64 (coK (B k).2.1 d), .int .i64 (coK (B k).2.2.1 d), .int .i64 (coK (B k).2.2.2 d)] | 6 => v = .pointer (some ⟨w.heap.size, k * 4, none⟩) | 7 => True | _ => True)) hV rfl, ⟨fun _ => rfl, fun h => Bool.noConfusion (h7.symm.trans h)⟩⟩
            · cases ho
              have e1 : s 1 = _ := hV 1 (by decide) (hd 1 (by kernel_rfl))
              simp only [e1] at hK ⊢
              simp only [Act.put, List.setIfInBounds_toArray, List.set_cons_zero, List.set_cons_succ] at hK
              have h7 := not_yet hsh (k := 7) hLi (by decide) (by kernel_rfl) rfl
              have hw := hW.1 h7
              subst hw
              clear hW
              go_simp
              all_goals first | with_reducible exact hK.out _ _ ⟨val_upd (VAL := (fun j v => match j with | 0 => v = .pointer (some ⟨w.heap.size + 2, 0, none⟩) | 1 => v = .pointer (some ⟨w.heap.size + 2, 0, none⟩) | 2 => v = .pointer (some ⟨w.heap.size + 2, 1, none⟩) | 3 => v = .slice (some ⟨w.heap.size, 0, none⟩) n n | 4 => v = .int .i64 (k : Int) | 5 => v = .agg #[.int .i64 (coK (B k).1 d), .int .i64 (coK (B k).2.1 d), .int .i64 (coK (B k).2.2.1 d), .int .i64 (coK (B k).2.2.2 d)] | 6 => v = .pointer (some ⟨w.heap.size, k * 4, none⟩) | 7 => True | _ => True)) hV rfl, ⟨fun _ => rfl, fun h => Bool.noConfusion (h7.symm.trans h)⟩⟩ | exact hK.out _ _ ⟨val_upd (VAL := (fun j v => match j with | 0 => v = .pointer (some ⟨w.heap.size + 2, 0, none⟩) | 1 => v = .pointer (some ⟨w.heap.size + 2, 0, none⟩) | 2 => v = .pointer (some ⟨w.heap.size + 2, 1, none⟩) | 3 => v = .slice (some ⟨w.heap.size, 0, none⟩) n n | 4 => v = .int .i64 (k : Int) | 5 => v = .agg #[.int .i64 (coK (B k).1 d), .int .i64 (coK (B k).2.1 d), .int .i64 (coK (B k).2.2.1 d), .int .i64 (coK (B k).2.2.2 d)] | 6 => v = .pointer (some ⟨w.heap.size, k * 4, none⟩) | 7 => True | _ => True)) hV rfl, ⟨fun _ => rfl, fun h => Bool.noConfusion (h7.symm.trans h)⟩⟩
            · cases ho
              have e2 : s 2 = _ := hV 2 (by decide) (hd 2 (by kernel_rfl))
              simp only [e2] at hK ⊢
              simp only [Act.put, List.setIfInBounds_toArray, List.set_cons_zero, List.set_cons_succ] at hK
              have h7 := not_yet hsh (k := 7) hLi (by decide) (by kernel_rfl) rfl
              have hw := hW.1 h7
              subst hw
              clear hW
              go_simp
              all_goals first | with_reducible exact hK.out _ _ ⟨val_upd (VAL := (fun j v => match j with | 0 => v = .pointer (some ⟨w.heap.size + 2, 0, none⟩) | 1 => v = .pointer (some ⟨w.heap.size + 2, 0, none⟩) | 2 => v = .pointer (some ⟨w.heap.size + 2, 1, none⟩) | 3 => v = .slice (some ⟨w.heap.size, 0, none⟩) n n | 4 => v = .int .i64 (k : Int) | 5 => v = .agg #[.int .i64 (coK (B k).1 d), .int .i64 (coK (B k).2.1 d), .int .i64 (coK (B k).2.2.1 d), .int .i64 (coK (B k).2.2.2 d)] | 6 => v = .pointer (some ⟨w.heap.size, k * 4, none⟩) | 7 => True | _ => True)) hV rfl, ⟨fun _ => rfl, fun h => Bool.noConfusion (h7.symm.trans h)⟩⟩ | exact hK.out _ _ ⟨val_upd (VAL := (fun j v => match j with | 0 => v = .pointer (some ⟨w.heap.size + 2, 0, none⟩) | 1 => v = .pointer (some ⟨w.heap.size + 2, 0, none⟩) | 2 => v = .pointer (some ⟨w.heap.size + 2, 1, none⟩) | 3 => v = .slice (some ⟨w.heap.size, 0, none⟩) n n | 4 => v = .int .i64 (k : Int) | 5 => v = .agg #[.int .i64 (coK (B k).1 d), .int .i64 (coK (B k).2.1 d), .int .i64 (coK (B k).2.2.1 d), .int .i64 (coK (B k).2.2.2 d)] | 6 => v = .pointer (some ⟨w.heap.size, k * 4, none⟩) | 7 => True | _ => True)) hV rfl, ⟨fun _ => rfl, fun h => Bool.noConfusion (h7.symm.trans h)⟩⟩
            · cases ho
              simp only [Act.put, List.setIfInBounds_toArray, List.set_cons_zero, List.set_cons_succ] at hK
              have h7 := not_yet hsh (k := 7) hLi (by decide) (by kernel_rfl) rfl
              have hw := hW.1 h7
              subst hw
              clear hsh hd
              clear hW
              go_simp
              all_goals first | with_reducible exact hK.out _ _ ⟨val_upd (VAL := (fun j v => match j with | 0 => v = .pointer (some ⟨w.heap.size + 2, 0, none⟩) | 1 => v = .pointer (some ⟨w.heap.size + 2, 0, none⟩) | 2 => v = .pointer (some ⟨w.heap.size + 2, 1, none⟩) | 3 => v = .slice (some ⟨w.heap.size, 0, none⟩) n n | 4 => v = .int .i64 (k : Int) | 5 => v = .agg #[.int .i64 (coK (B k).1 d), .int .i64 (coK (B k).2.1 d), .int .i64 (coK (B k).2.2.1 d), .int .i64 (coK (B k).2.2.2 d)] | 6 => v = .pointer (some ⟨w.heap.size, k * 4, none⟩) | 7 => True | _ => True)) hV rfl, ⟨fun _ => rfl, fun h => Bool.noConfusion (h7.symm.trans h)⟩⟩ | exact hK.out _ _ ⟨val_upd (VAL := (fun j v => match j with | 0 => v = .pointer (some ⟨w.heap.size + 2, 0, none⟩) | 1 => v = .pointer (some ⟨w.heap.size + 2, 0, none⟩) | 2 => v = .pointer (some ⟨w.heap.size + 2, 1, none⟩) | 3 => v = .slice (some ⟨w.heap.size, 0, none⟩) n n | 4 => v = .int .i64 (k : Int) | 5 => v = .agg #[.int .i64 (coK (B k).1 d), .int .i64 (coK (B k).2.1 d), .int .i64 (coK (B k).2.2.1 d), .int .i64 (coK (B k).2.2.2 d)] | 6 => v = .pointer (some ⟨w.heap.size, k * 4, none⟩) | 7 => True | _ => True)) hV rfl, ⟨fun _ => rfl, fun h => Bool.noConfusion (h7.symm.trans h)⟩⟩
            · cases ho
              simp only [Act.put, List.setIfInBounds_toArray, List.set_cons_zero, List.set_cons_succ] at hK
              have h7 := not_yet hsh (k := 7) hLi (by decide) (by kernel_rfl) rfl
              have hw := hW.1 h7
              subst hw
              clear hsh hd
              clear hW
              go_simp
              all_goals first | with_reducible exact hK.out _ _ ⟨val_upd (VAL := (fun j v => match j with | 0 => v = .pointer (some ⟨w.heap.size + 2, 0, none⟩) | 1 => v = .pointer (some ⟨w.heap.size + 2, 0, none⟩) | 2 => v = .pointer (some ⟨w.heap.size + 2, 1, none⟩) | 3 => v = .slice (some ⟨w.heap.size, 0, none⟩) n n | 4 => v = .int .i64 (k : Int) | 5 => v = .agg #[.int .i64 (coK (B k).1 d), .int .i64 (coK (B k).2.1 d), .int .i64 (coK (B k).2.2.1 d), .int .i64 (coK (B k).2.2.2 d)] | 6 => v = .pointer (some ⟨w.heap.size, k * 4, none⟩) | 7 => True | _ => True)) hV rfl, ⟨fun _ => rfl, fun h => Bool.noConfusion (h7.symm.trans h)⟩⟩ | exact hK.out _ _ ⟨val_upd (VAL := (fun j v => match j with | 0 => v = .pointer (some ⟨w.heap.size + 2, 0, none⟩) | 1 => v = .pointer (some ⟨w.heap.size + 2, 0, none⟩) | 2 => v = .pointer (some ⟨w.heap.size + 2, 1, none⟩) | 3 => v = .slice (some ⟨w.heap.size, 0, none⟩) n n | 4 => v = .int .i64 (k : Int) | 5 => v = .agg #[.int .i64 (coK (B k).1 d), .int .i64 (coK (B k).2.1 d), .int .i64 (coK (B k).2.2.1 d), .int .i64 (coK (B k).2.2.2 d)] | 6 => v = .pointer (some ⟨w.heap.size, k * 4, none⟩) | 7 => True | _ => True)) hV rfl, ⟨fun _ => rfl, fun h => Bool.noConfusion (h7.symm.trans h)⟩⟩
            · cases ho
              have e3 : s 3 = _ := hV 3 (by decide) (hd 3 (by kernel_rfl))
              have e4 : s 4 = _ := hV 4 (by decide) (hd 4 (by kernel_rfl))
              simp only [e3, e4] at hK ⊢
              simp only [Act.put, List.setIfInBounds_toArray, List.set_cons_zero, List.set_cons_succ] at hK
              have h7 := not_yet hsh (k := 7) hLi (by decide) (by kernel_rfl) rfl
              have hw := hW.1 h7
              subst hw
              clear hW
              go_simp
              all_goals first | with_reducible exact hK.out _ _ ⟨val_upd (VAL := (fun j v => match j with | 0 => v = .pointer (some ⟨w.heap.size + 2, 0, none⟩) | 1 => v = .pointer (some ⟨w.heap.size + 2, 0, none⟩) | 2 => v = .pointer (some ⟨w.heap.size + 2, 1, none⟩) | 3 => v = .slice (some ⟨w.heap.size, 0, none⟩) n n | 4 => v = .int .i64 (k : Int) | 5 => v = .agg #[.int .i64 (coK (B k).1 d), .int .i64 (coK (B k).2.1 d), .int .i64 (coK (B k).2.2.1 d), .int .i64 (coK (B k).2.2.2 d)] | 6 => v = .pointer (some ⟨w.heap.size, k * 4, none⟩) | 7 => True | _ => True)) hV rfl, ⟨fun _ => rfl, fun h => Bool.noConfusion (h7.symm.trans h)⟩⟩ | exact hK.out _ _ ⟨val_upd (VAL := (fun j v => match j with | 0 => v = .pointer (some ⟨w.heap.size + 2, 0, none⟩) | 1 => v = .pointer (some ⟨w.heap.size + 2, 0, none⟩) | 2 => v = .pointer (some ⟨w.heap.size + 2, 1, none⟩) | 3 => v = .slice (some ⟨w.heap.size, 0, none⟩) n n | 4 => v = .int .i64 (k : Int) | 5 => v = .agg #[.int .i64 (coK (B k).1 d), .int .i64 (coK (B k).2.1 d), .int .i64 (coK (B k).2.2.1 d), .int .i64 (coK (B k).2.2.2 d)] | 6 => v = .pointer (some ⟨w.heap.size, k * 4, none⟩) | 7 => True | _ => True)) hV rfl, ⟨fun _ => rfl, fun h => Bool.noConfusion (h7.symm.trans h)⟩⟩
            · cases ho
              simp only [Act.put, List.setIfInBounds_toArray, List.set_cons_zero, List.set_cons_succ] at hK
              have hw := hW.1 hLi
              subst hw
              clear hW
              obtain ⟨W9, hW9, hR9⟩ := hR8.span hlt
              have e5 : s 5 = _ := hV 5 (by decide) (hd 5 (by kernel_rfl))
              have e6 : s 6 = _ := hV 6 (by decide) (hd 6 (by kernel_rfl))
              simp only [e5, e6] at hK ⊢
              go_simp
              have hW8 : W9 = (((w8.setCell ⟨w.heap.size, k * 4, none⟩ (.int .i64 (coK (B k).1 d))).setCell ⟨w.heap.size, k * 4 + 1, none⟩ (.int .i64 (coK (B k).2.1 d))).setCell ⟨w.heap.size, k * 4 + 2, none⟩ (.int .i64 (coK (B k).2.2.1 d))).setCell ⟨w.heap.size, k * 4 + 3, none⟩ (.int .i64 (coK (B k).2.2.2 d)) := hW9
              clear hW9
              rw [← hW8]
              clear hW8
              exact hK.out undef W9.drew ⟨val_upd (VAL := (fun j v => match j with | 0 => v = .pointer (some ⟨w.heap.size + 2, 0, none⟩) | 1 => v = .pointer (some ⟨w.heap.size + 2, 0, none⟩) | 2 => v = .pointer (some ⟨w.heap.size + 2, 1, none⟩) | 3 => v = .slice (some ⟨w.heap.size, 0, none⟩) n n | 4 => v = .int .i64 (k : Int) | 5 => v = .agg #[.int .i64 (coK (B k).1 d), .int .i64 (coK (B k).2.1 d), .int .i64 (coK (B k).2.2.1 d), .int .i64 (coK (B k).2.2.2 d)] | 6 => v = .pointer (some ⟨w.heap.size, k * 4, none⟩) | 7 => True | _ => True)) hV trivial, fun h => (by simp [updL] at h), fun _ => hR9.bel (bl_drew (bl_refl _))⟩
          case ht_w7 =>
            intro s W hj
            obtain ⟨hV, hW⟩ := hj
            have e0 : s 0 = _ := hV 0 (by decide) rfl
            have e1 : s 1 = _ := hV 1 (by decide) rfl
            have e2 : s 2 = _ := hV 2 (by decide) rfl
            have e3 : s 3 = _ := hV 3 (by decide) rfl
            have e4 : s 4 = _ := hV 4 (by decide) rfl
            have e5 : s 5 = _ := hV 5 (by decide) rfl
            have e6 : s 6 = _ := hV 6 (by decide) rfl
            simp only [e0, e1, e2, e3, e4, e5, e6]
            clear hV e0 e1 e2 e3 e4 e5 e6
            have hR7 := hW.2 rfl
            clear hW hR8 hR8d c5 c1 c2 c3 c4 ci k0 k1 k2 k3
            obtain ⟨w9, hw9⟩ : ∃ x, x = W := ⟨_, rfl⟩
            rw [← hw9] at hR7 ⊢
            clear hw9
            have c5 : w9.cell? ⟨w.heap.size + 1 + 1 + 1, 0, none⟩ = some (.pointer (some ⟨w.heap.size + 2, 0, none⟩)) := hR7.lay.cg
            have c1 := hR7.lay.g6.c1
            have c2 := hR7.lay.g6.c2
            have c3 := hR7.lay.g6.c3
            have c4 := hR7.lay.g6.c4
            have ci := hR7.ci
            obtain ⟨k0, k1, k2, k3⟩ := hR7.cs
            simp only [spO] at k0 k1 k2 k3
          
            have hin := sp_in hd0 hv
            gi_wp2
            refine ⟨trivial, (callsIn_wide.2 (isWide_s (spO d (B k)) _ hin)).mono ?_⟩
            rintro e w10 ⟨rfl, hb10⟩
            have hR8 := hR7.bel hb10
            clear hR7 hb10 c5 c1 c2 c3 c4 ci k0 k1 k2 k3
            have hml3 : (nums (smB B d) k).length + 1 ≤ maxLen := by have := nums_len (smB B d) k; unfold maxLen; omega
            have hmr3 : ((nums (smB B d) k).length + 1) * 8 ≤ 140737488355328 := by have := nums_len (smB B d) k; omega
            have hml4 : (nums (wdB B d) k).length + 1 ≤ maxLen := by have := nums_len (wdB B d) k; unfold maxLen; omega
            have hmr4 : ((nums (wdB B d) k).length + 1) * 8 ≤ 140737488355328 := by have := nums_len (wdB B d) k; omega
            obtain ⟨w8, hw8⟩ : ∃ x, x = w10 := ⟨_, rfl⟩
            rw [← hw8] at hR8 ⊢
            clear hw8
            have c5 : w8.cell? ⟨w.heap.size + 1 + 1 + 1, 0, none⟩ = some (.pointer (some ⟨w.heap.size + 2, 0, none⟩)) := hR8.lay.cg
            have c1 := hR8.lay.g6.c1
            have c2 := hR8.lay.g6.c2
            have c3 := hR8.lay.g6.c3
            have c4 := hR8.lay.g6.c4
            have ci := hR8.ci
            obtain ⟨k0, k1, k2, k3⟩ := hR8.cs
            simp only [spO] at k0 k1 k2 k3
          
            cases hwd : wideS (spO d (B k))
            · gi_wp2
              refine wpIn_wide.2 ?_
              have hml := hml3
              have hmr := hmr3
              refine wp_region_inv 11 rfl (fun L s W => (∀ j, j < 11 → L j = true → (fun j v => match j with | 0 => v = .pointer (some ⟨w.heap.size + 2, 0, none⟩) | 1 => v = .pointer (some ⟨w.heap.size + 2, 0, none⟩) | 2 => v = .pointer (some ⟨w.heap.size + 2, 0, none⟩) | 3 => v = .pointer (some ⟨w.heap.size + 2, 3, none⟩) | 4 => v = v3 | 5 => v = .int .i64 (k : Int) | 6 => True | 7 => True | 8 => v = .pointer (some ⟨w.heap.size + 2, 0, none⟩) | 9 => v = .pointer (some ⟨w.heap.size + 2, 3, none⟩) | 10 => True | _ => True) j (s j)) ∧ ((L 7 = false → Bel w8 W) ∧ (L 6 = true → L 7 = false → ∃ g, s 6 = .slice (some ⟨g, 0, none⟩) 1 1 ∧ Rw W g 0 [.int .i64 (k : Int)]) ∧ (L 7 = true → L 10 = false → ∃ Wa g cp, Bel w8 Wa ∧ s 7 = (.slice (some ⟨g, 0, none⟩) ((nums (smB B d) k).length + 1) cp) ∧ OwnR 1 (w.heap.size + 4) W (.slice (some ⟨g, 0, none⟩) ((nums (smB B d) k).length + 1) cp) ((nums (smB B d) k).length + 1) (iRow (nums (smB B d) k) ++ [.int .i64 (k : Int)]) ∧ Oh v3 Wa W ∧ (Wa.heap.size ≤ g ∨ ∃ c, v3 = .slice (some ⟨g, 0, none⟩) (nums (smB B d) k).length c)) ∧ (L 10 = true → ∃ u, RS w W n (some ⟨b, off, none⟩) cap d B k (k + 1) u v4 M ck ((nums (smB B d) k) ++ [k]) (nums (wdB B d) k) (grF B d k) p6 g8 [] Ds) ∧ (L 10 = false → W.cell? ⟨w.heap.size + 1 + 1 + 1, 0, none⟩ = some (.pointer (some ⟨w.heap.size + 2, 0, none⟩))))) ?A_w10a (by kernel_rfl) (by kernel_rfl) ?hA_w10a ?h0_w10a ?hq_w10a ?hJ_w10a ?ht_w10a
              case hA_w10a =>
                intro s
                simp only [putL, dstO, Act.put, List.getElem?_toArray, List.getElem?_cons_zero, List.getElem?_cons_succ, Option.bind_some, List.setIfInBounds_toArray, List.set_cons_zero, List.set_cons_succ, if_true]
                all_goals exact rfl
              case h0_w10a => exact ⟨fun j _ h => (by cases h), ⟨fun _ => bl_drew (bl_refl _), fun h => (by cases h), fun h => (by cases h), fun h => (by cases h), fun _ => keep (bl_drew (bl_refl _)) c5⟩⟩
              case hJ_w10a =>
                intro L L' s W h hj
                refine ⟨fun j hj2 hl => hj.1 j hj2 ((h j hj2).trans hl), ?_⟩
                have hj2 := hj.2
                rw [h 6 (by decide), h 7 (by decide), h 10 (by decide)] at hj2
                exact hj2
              case hq_w10a =>
                intro i o hi ho L s W hLi hd hsh hj K hK
                obtain ⟨hV, hW⟩ := hj
                rcases (show i = 0 ∨ i = 1 ∨ i = 2 ∨ i = 3 ∨ i = 4 ∨ i = 5 ∨ i = 6 ∨ i = 7 ∨ i = 8 ∨ i = 9 ∨ i = 10 by omega) with rfl | rfl | rfl | rfl | rfl | rfl | rfl | rfl | rfl | rfl | rfl
                · cases ho
                  simp only [Act.put, List.setIfInBounds_toArray, List.set_cons_zero, List.set_cons_succ] at hK
                  have h10 := not_yet hsh (k := 10) hLi (by decide) (by kernel_rfl) rfl
                  have t0 := hW.2.2.2.2 h10
                  go_simp
                  all_goals first | with_reducible exact hK.out _ _ ⟨val_upd (VAL := (fun j v => match j with | 0 => v = .pointer (some ⟨w.heap.size + 2, 0, none⟩) | 1 => v = .pointer (some ⟨w.heap.size + 2, 0, none⟩) | 2 => v = .pointer (some ⟨w.heap.size + 2, 0, none⟩) | 3 => v = .pointer (some ⟨w.heap.size + 2, 3, none⟩) | 4 => v = v3 | 5 => v = .int .i64 (k : Int) | 6 => True | 7 => True | 8 => v = .pointer (some ⟨w.heap.size + 2, 0, none⟩) | 9 => v = .pointer (some ⟨w.heap.size + 2, 3, none⟩) | 10 => True | _ => True)) hV rfl, hW⟩ | exact hK.out _ _ ⟨val_upd (VAL := (fun j v => match j with | 0 => v = .pointer (some ⟨w.heap.size + 2, 0, none⟩) | 1 => v = .pointer (some ⟨w.heap.size + 2, 0, none⟩) | 2 => v = .pointer (some ⟨w.heap.size + 2, 0, none⟩) | 3 => v = .pointer (some ⟨w.heap.size + 2, 3, none⟩) | 4 => v = v3 | 5 => v = .int .i64 (k : Int) | 6 => True | 7 => True | 8 => v = .pointer (some ⟨w.heap.size + 2, 0, none⟩) | 9 => v = .pointer (some ⟨w.heap.size + 2, 3, none⟩) | 10 => True | _ => True)) hV rfl, hW⟩
                · cases ho
                  simp only [Act.put, List.setIfInBounds_toArray, List.set_cons_zero, List.set_cons_succ] at hK
                  have h7 := not_yet hsh (k := 7) hLi (by decide) (by kernel_rfl) rfl
                  have bW := hW.1 h7
                  have t0 := keep bW c5
                  go_simp
                  all_goals first | with_reducible exact hK.out _ _ ⟨val_upd (VAL := (fun j v => match j with | 0 => v = .pointer (some ⟨w.heap.size + 2, 0, none⟩) | 1 => v = .pointer (some ⟨w.heap.size + 2, 0, none⟩) | 2 => v = .pointer (some ⟨w.heap.size + 2, 0, none⟩) | 3 => v = .pointer (some ⟨w.heap.size + 2, 3, none⟩) | 4 => v = v3 | 5 => v = .int .i64 (k : Int) | 6 => True | 7 => True | 8 => v = .pointer (some ⟨w.heap.size + 2, 0, none⟩) | 9 => v = .pointer (some ⟨w.heap.size + 2, 3, none⟩) | 10 => True | _ => True)) hV rfl, hW⟩ | exact hK.out _ _ ⟨val_upd (VAL := (fun j v => match j with | 0 => v = .pointer (some ⟨w.heap.size + 2, 0, none⟩) | 1 => v = .pointer (some ⟨w.heap.size + 2, 0, none⟩) | 2 => v = .pointer (some ⟨w.heap.size + 2, 0, none⟩) | 3 => v = .pointer (some ⟨w.heap.size + 2, 3, none⟩) | 4 => v = v3 | 5 => v = .int .i64 (k : Int) | 6 => True | 7 => True | 8 => v = .pointer (some ⟨w.heap.size + 2, 0, none⟩) | 9 => v = .pointer (some ⟨w.heap.size + 2, 3, none⟩) | 10 => True | _ => True)) hV rfl, hW⟩
                · cases ho
                  have e1 : s 1 = _ := hV 1 (by decide) (hd 1 (by kernel_rfl))
                  simp only [e1] at hK ⊢
                  simp only [Act.put, List.setIfInBounds_toArray, List.set_cons_zero, List.set_cons_succ] at hK
                  go_simp
                  all_goals first | with_reducible exact hK.out _ _ ⟨val_upd (VAL := (fun j v => match j with | 0 => v = .pointer (some ⟨w.heap.size + 2, 0, none⟩) | 1 => v = .pointer (some ⟨w.heap.size + 2, 0, none⟩) | 2 => v = .pointer (some ⟨w.heap.size + 2, 0, none⟩) | 3 => v = .pointer (some ⟨w.heap.size + 2, 3, none⟩) | 4 => v = v3 | 5 => v = .int .i64 (k : Int) | 6 => True | 7 => True | 8 => v = .pointer (some ⟨w.heap.size + 2, 0, none⟩) | 9 => v = .pointer (some ⟨w.heap.size + 2, 3, none⟩) | 10 => True | _ => True)) hV rfl, hW⟩ | exact hK.out _ _ ⟨val_upd (VAL := (fun j v => match j with | 0 => v = .pointer (some ⟨w.heap.size + 2, 0, none⟩) | 1 => v = .pointer (some ⟨w.heap.size + 2, 0, none⟩) | 2 => v = .pointer (some ⟨w.heap.size + 2, 0, none⟩) | 3 => v = .pointer (some ⟨w.heap.size + 2, 3, none⟩) | 4 => v = v3 | 5 => v = .int .i64 (k : Int) | 6 => True | 7 => True | 8 => v = .pointer (some ⟨w.heap.size + 2, 0, none⟩) | 9 => v = .pointer (some ⟨w.heap.size + 2, 3, none⟩) | 10 => True | _ => True)) hV rfl, hW⟩
                · cases ho
                  have e2 : s 2 = _ := hV 2 (by decide) (hd 2 (by kernel_rfl))
                  simp only [e2] at hK ⊢
                  simp only [Act.put, List.setIfInBounds_toArray, List.set_cons_zero, List.set_cons_succ] at hK
                  go_simp
                  all_goals first | with_reducible exact hK.out _ _ ⟨val_upd (VAL := (fun j v => match j with | 0 => v = .pointer (some ⟨w.heap.size + 2, 0, none⟩) | 1 => v = .pointer (some ⟨w.heap.size + 2, 0, none⟩) | 2 => v = .pointer (some ⟨w.heap.size + 2, 0, none⟩) | 3 => v = .pointer (some ⟨w.heap.size + 2, 3, none⟩) | 4 => v = v3 | 5 => v = .int .i64 (k : Int) | 6 => True | 7 => True | 8 => v = .pointer (some ⟨w.heap.size + 2, 0, none⟩) | 9 => v = .pointer (some ⟨w.heap.size + 2, 3, none⟩) | 10 => True | _ => True)) hV rfl, hW⟩ | exact hK.out _ _ ⟨val_upd (VAL := (fun j v => match j with | 0 => v = .pointer (some ⟨w.heap.size + 2, 0, none⟩) | 1 => v = .pointer (some ⟨w.heap.size + 2, 0, none⟩) | 2 => v = .pointer (some ⟨w.heap.size + 2, 0, none⟩) | 3 => v = .pointer (some ⟨w.heap.size + 2, 3, none⟩) | 4 => v = v3 | 5 => v = .int .i64 (k : Int) | 6 => True | 7 => True | 8 => v = .pointer (some ⟨w.heap.size + 2, 0, none⟩) | 9 => v = .pointer (some ⟨w.heap.size + 2, 3, none⟩) | 10 => True | _ => True)) hV rfl, hW⟩
                · cases ho
                  have e3 : s 3 = _ := hV 3 (by decide) (hd 3 (by kernel_rfl))
                  simp only [e3] at hK ⊢
                  simp only [Act.put, List.setIfInBounds_toArray, List.set_cons_zero, List.set_cons_succ] at hK
                  have h7 := not_yet hsh (k := 7) hLi (by decide) (by kernel_rfl) rfl
                  have bW := hW.1 h7
                  have t0 := keep bW c3
                  go_simp
                  all_goals first | with_reducible exact hK.out _ _ ⟨val_upd (VAL := (fun j v => match j with | 0 => v = .pointer (some ⟨w.heap.size + 2, 0, none⟩) | 1 => v = .pointer (some ⟨w.heap.size + 2, 0, none⟩) | 2 => v = .pointer (some ⟨w.heap.size + 2, 0, none⟩) | 3 => v = .pointer (some ⟨w.heap.size + 2, 3, none⟩) | 4 => v = v3 | 5 => v = .int .i64 (k : Int) | 6 => True | 7 => True | 8 => v = .pointer (some ⟨w.heap.size + 2, 0, none⟩) | 9 => v = .pointer (some ⟨w.heap.size + 2, 3, none⟩) | 10 => True | _ => True)) hV rfl, hW⟩ | exact hK.out _ _ ⟨val_upd (VAL := (fun j v => match j with | 0 => v = .pointer (some ⟨w.heap.size + 2, 0, none⟩) | 1 => v = .pointer (some ⟨w.heap.size + 2, 0, none⟩) | 2 => v = .pointer (some ⟨w.heap.size + 2, 0, none⟩) | 3 => v = .pointer (some ⟨w.heap.size + 2, 3, none⟩) | 4 => v = v3 | 5 => v = .int .i64 (k : Int) | 6 => True | 7 => True | 8 => v = .pointer (some ⟨w.heap.size + 2, 0, none⟩) | 9 => v = .pointer (some ⟨w.heap.size + 2, 3, none⟩) | 10 => True | _ => True)) hV rfl, hW⟩
                · cases ho
                  simp only [Act.put, List.setIfInBounds_toArray, List.set_cons_zero, List.set_cons_succ] at hK
                  have h7 := not_yet hsh (k := 7) hLi (by decide) (by kernel_rfl) rfl
                  have bW := hW.1 h7
                  have t0 := keep bW ci
                  go_simp
                  all_goals first | with_reducible exact hK.out _ _ ⟨val_upd (VAL := (fun j v => match j with | 0 => v = .pointer (some ⟨w.heap.size + 2, 0, none⟩) | 1 => v = .pointer (some ⟨w.heap.size + 2, 0, none⟩) | 2 => v = .pointer (some ⟨w.heap.size + 2, 0, none⟩) | 3 => v = .pointer (some ⟨w.heap.size + 2, 3, none⟩) | 4 => v = v3 | 5 => v = .int .i64 (k : Int) | 6 => True | 7 => True | 8 => v = .pointer (some ⟨w.heap.size + 2, 0, none⟩) | 9 => v = .pointer (some ⟨w.heap.size + 2, 3, none⟩) | 10 => True | _ => True)) hV rfl, hW⟩ | exact hK.out _ _ ⟨val_upd (VAL := (fun j v => match j with | 0 => v = .pointer (some ⟨w.heap.size + 2, 0, none⟩) | 1 => v = .pointer (some ⟨w.heap.size + 2, 0, none⟩) | 2 => v = .pointer (some ⟨w.heap.size + 2, 0, none⟩) | 3 => v = .pointer (some ⟨w.heap.size + 2, 3, none⟩) | 4 => v = v3 | 5 => v = .int .i64 (k : Int) | 6 => True | 7 => True | 8 => v = .pointer (some ⟨w.heap.size + 2, 0, none⟩) | 9 => v = .pointer (some ⟨w.heap.size + 2, 3, none⟩) | 10 => True | _ => True)) hV rfl, hW⟩
                · cases ho
                  simp only [Act.put, List.setIfInBounds_toArray, List.set_cons_zero, List.set_cons_succ] at hK
                  have h7 := not_yet hsh (k := 7) hLi (by decide) (by kernel_rfl) rfl
                  have h10 := not_yet hsh (k := 10) hLi (by decide) (by kernel_rfl) rfl
                  have bW := hW.1 h7
                  clear hW
                  have e5 : s 5 = _ := hV 5 (by decide) (hd 5 (by kernel_rfl))
                  simp only [e5] at hK ⊢
                  go_simp
                  exact hK.out _ _ ⟨val_upd (VAL := (fun j v => match j with | 0 => v = .pointer (some ⟨w.heap.size + 2, 0, none⟩) | 1 => v = .pointer (some ⟨w.heap.size + 2, 0, none⟩) | 2 => v = .pointer (some ⟨w.heap.size + 2, 0, none⟩) | 3 => v = .pointer (some ⟨w.heap.size + 2, 3, none⟩) | 4 => v = v3 | 5 => v = .int .i64 (k : Int) | 6 => True | 7 => True | 8 => v = .pointer (some ⟨w.heap.size + 2, 0, none⟩) | 9 => v = .pointer (some ⟨w.heap.size + 2, 3, none⟩) | 10 => True | _ => True)) hV trivial, fun _ => bl_alloc bW _ _, fun _ _ => ⟨_, rfl, mk_rw W [.int .i64 (k : Int)] 3⟩, fun h => Bool.noConfusion (h7.symm.trans h), fun h => Bool.noConfusion (h10.symm.trans h), fun _ => keep (bl_alloc bW _ _) c5⟩
                · cases ho
                  simp only [Act.put, List.setIfInBounds_toArray, List.set_cons_zero, List.set_cons_succ] at hK
                  have h10 := not_yet hsh (k := 10) hLi (by decide) (by kernel_rfl) rfl
                  have bW := hW.1 hLi
                  obtain ⟨g9, e6, hS9⟩ := hW.2.1 (hd 6 (by kernel_rfl)) hLi
                  clear hW
                  have e4 : s 4 = _ := hV 4 (by decide) (hd 4 (by kernel_rfl))
                  simp only [e4, e6] at hK ⊢
                  have hRW := hR8.bel bW
                  obtain ⟨v9, w9, hrun, hO9, ⟨g, cp, rfl, hg9⟩, hOh⟩ := run_appU (P := Try.prog) (sz := 1) (by_ := 8) (N := [.int .i64 (k : Int)]) 29 29 3 Try.underlying29 info_int rfl g9 0 1 1 hRW.lay.o3 rfl hS9 one_int (by decide) hRW.lay.sz hml hmr
                  refine oper_appi _ _ rfl rfl rfl hrun ?_
                  exact hK.out _ _ ⟨val_upd (VAL := (fun j v => match j with | 0 => v = .pointer (some ⟨w.heap.size + 2, 0, none⟩) | 1 => v = .pointer (some ⟨w.heap.size + 2, 0, none⟩) | 2 => v = .pointer (some ⟨w.heap.size + 2, 0, none⟩) | 3 => v = .pointer (some ⟨w.heap.size + 2, 3, none⟩) | 4 => v = v3 | 5 => v = .int .i64 (k : Int) | 6 => True | 7 => True | 8 => v = .pointer (some ⟨w.heap.size + 2, 0, none⟩) | 9 => v = .pointer (some ⟨w.heap.size + 2, 3, none⟩) | 10 => True | _ => True)) hV trivial, fun h => (by simp [updL] at h), fun _ h => (by simp [updL] at h), fun _ _ => ⟨W, g, cp, bW, rfl, hO9, hOh, hg9⟩, fun h => Bool.noConfusion (h10.symm.trans h), fun _ => (heap_cell_eq (hOh.block _ (by have := hRW.lay.sz; omega) (lay_ne3 hRW.lay (by simp))) 0).trans (keep bW c5)⟩
                · cases ho
                  have e0 : s 0 = _ := hV 0 (by decide) (hd 0 (by kernel_rfl))
                  simp only [e0] at hK ⊢
                  simp only [Act.put, List.setIfInBounds_toArray, List.set_cons_zero, List.set_cons_succ] at hK
                  go_simp
                  all_goals first | with_reducible exact hK.out _ _ ⟨val_upd (VAL := (fun j v => match j with | 0 => v = .pointer (some ⟨w.heap.size + 2, 0, none⟩) | 1 => v = .pointer (some ⟨w.heap.size + 2, 0, none⟩) | 2 => v = .pointer (some ⟨w.heap.size + 2, 0, none⟩) | 3 => v = .pointer (some ⟨w.heap.size + 2, 3, none⟩) | 4 => v = v3 | 5 => v = .int .i64 (k : Int) | 6 => True | 7 => True | 8 => v = .pointer (some ⟨w.heap.size + 2, 0, none⟩) | 9 => v = .pointer (some ⟨w.heap.size + 2, 3, none⟩) | 10 => True | _ => True)) hV rfl, hW⟩ | exact hK.out _ _ ⟨val_upd (VAL := (fun j v => match j with | 0 => v = .pointer (some ⟨w.heap.size + 2, 0, none⟩) | 1 => v = .pointer (some ⟨w.heap.size + 2, 0, none⟩) | 2 => v = .pointer (some ⟨w.heap.size + 2, 0, none⟩) | 3 => v = .pointer (some ⟨w.heap.size + 2, 3, none⟩) | 4 => v = v3 | 5 => v = .int .i64 (k : Int) | 6 => True | 7 => True | 8 => v = .pointer (some ⟨w.heap.size + 2, 0, none⟩) | 9 => v = .pointer (some ⟨w.heap.size + 2, 3, none⟩) | 10 => True | _ => True)) hV rfl, hW⟩
                · cases ho
                  have e8 : s 8 = _ := hV 8 (by decide) (hd 8 (by kernel_rfl))
                  simp only [e8] at hK ⊢
                  simp only [Act.put, List.setIfInBounds_toArray, List.set_cons_zero, List.set_cons_succ] at hK
                  go_simp
                  all_goals first | with_reducible exact hK.out _ _ ⟨val_upd (VAL := (fun j v => match j with | 0 => v = .pointer (some ⟨w.heap.size + 2, 0, none⟩) | 1 => v = .pointer (some ⟨w.heap.size + 2, 0, none⟩) | 2 => v = .pointer (some ⟨w.heap.size + 2, 0, none⟩) | 3 => v = .pointer (some ⟨w.heap.size + 2, 3, none⟩) | 4 => v = v3 | 5 => v = .int .i64 (k : Int) | 6 => True | 7 => True | 8 => v = .pointer (some ⟨w.heap.size + 2, 0, none⟩) | 9 => v = .pointer (some ⟨w.heap.size + 2, 3, none⟩) | 10 => True | _ => True)) hV rfl, hW⟩ | exact hK.out _ _ ⟨val_upd (VAL := (fun j v => match j with | 0 => v = .pointer (some ⟨w.heap.size + 2, 0, none⟩) | 1 => v = .pointer (some ⟨w.heap.size + 2, 0, none⟩) | 2 => v = .pointer (some ⟨w.heap.size + 2, 0, none⟩) | 3 => v = .pointer (some ⟨w.heap.size + 2, 3, none⟩) | 4 => v = v3 | 5 => v = .int .i64 (k : Int) | 6 => True | 7 => True | 8 => v = .pointer (some ⟨w.heap.size + 2, 0, none⟩) | 9 => v = .pointer (some ⟨w.heap.size + 2, 3, none⟩) | 10 => True | _ => True)) hV rfl, hW⟩
                · cases ho
                  simp only [Act.put, List.setIfInBounds_toArray, List.set_cons_zero, List.set_cons_succ] at hK
                  have hia := hd 7 (by kernel_rfl)
                  obtain ⟨Wa, g, cp, bW, e7, hO9, hOh, hg9⟩ := hW.2.2.1 hia hLi
                  clear hW
                  have e9 : s 9 = _ := hV 9 (by decide) (hd 9 (by kernel_rfl))
                  simp only [e7, e9] at hK ⊢
                  have hRW := hR8.bel bW
                  have hgz := hRW.lay.g6.oh hOh (lay_ne hRW.lay (by simp))
                  have cz := hgz.c3
                  have fz := hgz.fr 3
                  go_simp
                  exact hK.out undef _ ⟨val_upd (VAL := (fun j v => match j with | 0 => v = .pointer (some ⟨w.heap.size + 2, 0, none⟩) | 1 => v = .pointer (some ⟨w.heap.size + 2, 0, none⟩) | 2 => v = .pointer (some ⟨w.heap.size + 2, 0, none⟩) | 3 => v = .pointer (some ⟨w.heap.size + 2, 3, none⟩) | 4 => v = v3 | 5 => v = .int .i64 (k : Int) | 6 => True | 7 => True | 8 => v = .pointer (some ⟨w.heap.size + 2, 0, none⟩) | 9 => v = .pointer (some ⟨w.heap.size + 2, 3, none⟩) | 10 => True | _ => True)) hV trivial, fun h => Bool.noConfusion (h.symm.trans hia), fun _ h => Bool.noConfusion (h.symm.trans hia), fun _ h => (by simp [updL] at h), fun _ => ⟨_, hRW.push3 hO9 hOh hg9⟩, fun h => (by simp [updL] at h)⟩
              case ht_w10a =>
                intro s W hj
                obtain ⟨hV, hW⟩ := hj
                have e0 : s 0 = _ := hV 0 (by decide) rfl
                have e1 : s 1 = _ := hV 1 (by decide) rfl
                have e2 : s 2 = _ := hV 2 (by decide) rfl
                have e3 : s 3 = _ := hV 3 (by decide) rfl
                have e4 : s 4 = _ := hV 4 (by decide) rfl
                have e5 : s 5 = _ := hV 5 (by decide) rfl
                have e8 : s 8 = _ := hV 8 (by decide) rfl
                have e9 : s 9 = _ := hV 9 (by decide) rfl
                simp only [e0, e1, e2, e3, e4, e5, e8, e9]
                clear hV e0 e1 e2 e3 e4 e5 e8 e9
                obtain ⟨u3, hR10⟩ := hW.2.2.2.1 rfl
                clear hW hR8 c5 c1 c2 c3 c4 ci k0 k1 k2 k3
                obtain ⟨w11, hw11⟩ : ∃ x, x = W := ⟨_, rfl⟩
                rw [← hw11] at hR10 ⊢
                clear hw11
                have c5 : w11.cell? ⟨w.heap.size + 1 + 1 + 1, 0, none⟩ = some (.pointer (some ⟨w.heap.size + 2, 0, none⟩)) := hR10.lay.cg
                have c1 := hR10.lay.g6.c1
                have c2 := hR10.lay.g6.c2
                have c3 := hR10.lay.g6.c3
                have c4 := hR10.lay.g6.c4
                have ci := hR10.ci
                obtain ⟨k0, k1, k2, k3⟩ := hR10.cs
                simp only [spO] at k0 k1 k2 k3
          
                gi_wp2
                refine ⟨trivial, (callsIn_wide.2 (cells_s (spO d (B k)) _)).mono ?_⟩
                rintro e w12 ⟨rfl, hw12⟩
                have hB12 : Bel w11 w12 := by rw [hw12]; exact bl_alloc (bl_refl _) _ _
                obtain ⟨q, hq⟩ : ∃ q, q = w11.heap.size := ⟨_, rfl⟩
                rw [← hq]
                have hq12 : SpB w12 q (spO d (B k)) := by
                  rw [hw12, hq]
                  exact ⟨by rw [World.cell?_alloc_new]; rfl, by rw [World.cell?_alloc_new]; rfl, by rw [World.cell?_alloc_new]; rfl, by rw [World.cell?_alloc_new]; rfl⟩
                have hql : q < w12.heap.size := World.block_lt_of_cell? _ _ hq12.1
                have hR12 := (hR10.bel hB12).more (q := q) (by have := hR10.lay.sz; omega) hql (fun v hv e => by have := (hR10.lay.obj v hv q e).2.1; omega)
                have hA0w : w.heap.size + 3 ≤ w12.heap.size := by have := hR12.lay.sz; omega
                clear hw12 hB12 hq hR10 c5 c1 c2 c3 c4 ci k0 k1 k2 k3 hml hmr hml3 hmr3 hml4 hmr4
                gi_wp2
                have hsmk : smB B d k = true := by unfold smB; rw [hv, hwd]; rfl
                have hwdk : wdB B d k = false := by unfold wdB; rw [hv, hwd]; rfl
                have hfar := hR12.far
                have hDl : ∀ D ∈ Ds, D < w12.heap.size := fun D h => (Array.getElem?_eq_some_iff.1 (hR12.mrk D h).2).1
                refine range_ce (po := 9) (by decide) rfl (enters_of Try.func61 (by kernel_rfl) rfl) q 16 (cellsL (spO d (B k))) (cells_stops _ q (spO d (B k)) hin w12 hq12 hql 16 (small_16 hwd)) hql
                  (fun pre W => ∃ M ck, RS w W n (some ⟨b, off, none⟩) cap d B k (k + 1) u3 v4 M ck ((nums (smB B d) k) ++ [k]) (nums (wdB B d) k) (grP B d k pre) p6 g8 [q] Ds) ?hI ?h0 ?hassign ?hbody ?hdone
                case hI =>
                  rintro pre X Y row ⟨M, ck, hR⟩ hg hr
                  exact ⟨M, ck, hR.grown hg hR12.lay.sz (fun x hx => (hfar x hx).2.1) hDl hr⟩
                case h0 => exact ⟨M, ck, by rw [grP_nil]; exact hR12⟩
                case hassign =>
                  rintro l pre x W K ⟨M, ck, hR⟩ hK
                  simp only [List.setIfInBounds_toArray, List.set_cons_zero, List.set_cons_succ] at hK ⊢
                  unfold ceV at hK ⊢
                  gi_wp2
                  have hbx : Bel W (W.alloc (.cells #[.int .i64 x.1, .int .i64 x.2] 75)) := bl_alloc (bl_refl _) _ _
                  have hql2 : q < W.heap.size := (hR.far q (by simp)).2.1
                  exact hK W.heap.size _ (KeepsFrom.of_bel hbx) (fun o => hbx.1.cell (p := ⟨q, o, none⟩) hql2) ⟨M, ck, hR.bel hbx⟩ (by rw [World.cell?_alloc_new]; rfl) (by rw [World.cell?_alloc_new]; rfl)
                case hbody =>
                  rintro l pre c bx wr ⟨M, ck, hR⟩ x0 x1 hlen
                  simp only [List.setIfInBounds_toArray, List.set_cons_zero, List.set_cons_succ]
                  have hql2 : q < wr.heap.size := (hR.far q (by simp)).2.1
                  obtain ⟨A0, hA00⟩ : ∃ A0, A0 = w12.heap.size := ⟨_, rfl⟩
                  rw [← hA00] at hA0w ⊢
                  have hA0 := hA0w
                  have hqW := hql2
                  obtain ⟨vv, bn, hEnt⟩ := ent_run key_p Try.underlying58 zero_li (w.heap.size + 1) M ck c
                  have hgl := grP_len B d k pre c
                  have hml : ((grP B d k pre) c).length + 1 ≤ maxLen := by unfold maxLen; omega
                  have hmr : (((grP B d k pre) c).length + 1) * 8 ≤ 140737488355328 := by omega
                  have c5 : wr.cell? ⟨w.heap.size + 1 + 1 + 1, 0, none⟩ = some (.pointer (some ⟨w.heap.size + 2, 0, none⟩)) := hR.lay.cg
                  have c1 := hR.lay.g6.c1
                  have c2 := hR.lay.g6.c2
                  have c3 := hR.lay.g6.c3
                  have c4 := hR.lay.g6.c4
                  have ci := hR.ci
                  obtain ⟨k0, k1, k2, k3⟩ := hR.cs
                  simp only [spO] at k0 k1 k2 k3
          
                  gi_wp2
                  refine wpIn_region_inv l _ 12 rfl (fun L s W => (∀ j, j < 12 → L j = true → (fun j v => match j with | 0 => v = .pointer (some ⟨w.heap.size + 2, 0, none⟩) | 1 => v = .pointer (some ⟨w.heap.size + 2, 0, none⟩) | 2 => v = .pointer (some ⟨w.heap.size + 2, 2, none⟩) | 3 => v = .map (some (w.heap.size + 1)) | 4 => v = ceV c | 5 => v = .int .i64 (k : Int) | 6 => True | 7 => v = .tuple #[vv, .int .i64 (bn : Int)] | 8 => v = vv | 9 => True | 10 => v = .int .i64 (bn : Int) | 11 => True | _ => True) j (s j)) ∧ ((L 7 = false → Bel wr W) ∧ (L 6 = true → L 7 = false → ∃ g, s 6 = .slice (some ⟨g, 0, none⟩) 1 1 ∧ Rw W g 0 [.int .i64 (k : Int)]) ∧ (L 7 = true → L 9 = false → ∃ Wa g, Bel wr Wa ∧ s 6 = .slice (some ⟨g, 0, none⟩) 1 1 ∧ Rw W g 0 [.int .i64 (k : Int)] ∧ EntS (w.heap.size + 1) Wa W M ck c vv bn) ∧ (L 9 = true → L 11 = false → ∃ Wa Wb g cp, Bel wr Wa ∧ EntS (w.heap.size + 1) Wa Wb M ck c vv bn ∧ s 9 = (.slice (some ⟨g, 0, none⟩) (((grP B d k pre) c).length + 1) cp) ∧ OwnR 1 (w.heap.size + 4) W (.slice (some ⟨g, 0, none⟩) (((grP B d k pre) c).length + 1) cp) (((grP B d k pre) c).length + 1) (iRow ((grP B d k pre) c) ++ [.int .i64 (k : Int)]) ∧ Oh vv Wb W ∧ (Wb.heap.size ≤ g ∨ ∃ cp, vv = .slice (some ⟨g, 0, none⟩) ((grP B d k pre) c).length cp)) ∧ (L 11 = true → (∃ M' ck', RS w W n (some ⟨b, off, none⟩) cap d B k (k + 1) u3 v4 M' ck' ((nums (smB B d) k) ++ [k]) (nums (wdB B d) k) (upF (grP B d k pre) c k) p6 g8 [q] Ds) ∧ KpQ q wr W ∧ KeepsFrom A0 wr W))) ?A_w13 (by kernel_rfl) (by kernel_rfl) ?hA_w13 ?h0_w13 ?hq_w13 ?hJ_w13 ?ht_w13
                  case hA_w13 =>
                    intro s
                    simp only [putL, dstO, Act.put, List.getElem?_toArray, List.getElem?_cons_zero, List.getElem?_cons_succ, Option.bind_some, List.setIfInBounds_toArray, List.set_cons_zero, List.set_cons_succ, if_true]
                    all_goals exact rfl
                  case h0_w13 => exact ⟨fun j _ h => (by cases h), ⟨fun _ => bl_drew (bl_refl _), fun h => (by cases h), fun h => (by cases h), fun h => (by cases h), fun h => (by cases h)⟩⟩
                  case hJ_w13 =>
                    intro L L' s W h hj
                    refine ⟨fun j hj2 hl => hj.1 j hj2 ((h j hj2).trans hl), ?_⟩
                    have hj2 := hj.2
                    rw [h 6 (by decide), h 7 (by decide), h 9 (by decide), h 11 (by decide)] at hj2
                    exact hj2
                  case hq_w13 =>
                    intro i o hi ho L s W hLi hd hsh hj K hK
                    obtain ⟨hV, hW⟩ := hj
                    rcases (show i = 0 ∨ i = 1 ∨ i = 2 ∨ i = 3 ∨ i = 4 ∨ i = 5 ∨ i = 6 ∨ i = 7 ∨ i = 8 ∨ i = 9 ∨ i = 10 ∨ i = 11 by omega) with rfl | rfl | rfl | rfl | rfl | rfl | rfl | rfl | rfl | rfl | rfl | rfl
                    · cases ho
                      simp only [Act.put, List.setIfInBounds_toArray, List.set_cons_zero, List.set_cons_succ] at hK
                      have h7 := not_yet hsh (k := 7) hLi (by decide) (by kernel_rfl) rfl
                      have bW := hW.1 h7
                      have t0 := keep bW c5
                      go_simp
                      all_goals first | with_reducible exact hK.out _ _ ⟨val_upd (VAL := (fun j v => match j with | 0 => v = .pointer (some ⟨w.heap.size + 2, 0, none⟩) | 1 => v = .pointer (some ⟨w.heap.size + 2, 0, none⟩) | 2 => v = .pointer (some ⟨w.heap.size + 2, 2, none⟩) | 3 => v = .map (some (w.heap.size + 1)) | 4 => v = ceV c | 5 => v = .int .i64 (k : Int) | 6 => True | 7 => v = .tuple #[vv, .int .i64 (bn : Int)] | 8 => v = vv | 9 => True | 10 => v = .int .i64 (bn : Int) | 11 => True | _ => True)) hV rfl, hW⟩ | exact hK.out _ _ ⟨val_upd (VAL := (fun j v => match j with | 0 => v = .pointer (some ⟨w.heap.size + 2, 0, none⟩) | 1 => v = .pointer (some ⟨w.heap.size + 2, 0, none⟩) | 2 => v = .pointer (some ⟨w.heap.size + 2, 2, none⟩) | 3 => v = .map (some (w.heap.size + 1)) | 4 => v = ceV c | 5 => v = .int .i64 (k : Int) | 6 => True | 7 => v = .tuple #[vv, .int .i64 (bn : Int)] | 8 => v = vv | 9 => True | 10 => v = .int .i64 (bn : Int) | 11 => True | _ => True)) hV rfl, hW⟩
                    · cases ho
                      have e0 : s 0 = _ := hV 0 (by decide) (hd 0 (by kernel_rfl))
                      simp only [e0] at hK ⊢
                      simp only [Act.put, List.setIfInBounds_toArray, List.set_cons_zero, List.set_cons_succ] at hK
                      go_simp
                      all_goals first | with_reducible exact hK.out _ _ ⟨val_upd (VAL := (fun j v => match j with | 0 => v = .pointer (some ⟨w.heap.size + 2, 0, none⟩) | 1 => v = .pointer (some ⟨w.heap.size + 2, 0, none⟩) | 2 => v = .pointer (some ⟨w.heap.size + 2, 2, none⟩) | 3 => v = .map (some (w.heap.size + 1)) | 4 => v = ceV c | 5 => v = .int .i64 (k : Int) | 6 => True | 7 => v = .tuple #[vv, .int .i64 (bn : Int)] | 8 => v = vv | 9 => True | 10 => v = .int .i64 (bn : Int) | 11 => True | _ => True)) hV rfl, hW⟩ | exact hK.out _ _ ⟨val_upd (VAL := (fun j v => match j with | 0 => v = .pointer (some ⟨w.heap.size + 2, 0, none⟩) | 1 => v = .pointer (some ⟨w.heap.size + 2, 0, none⟩) | 2 => v = .pointer (some ⟨w.heap.size + 2, 2, none⟩) | 3 => v = .map (some (w.heap.size + 1)) | 4 => v = ceV c | 5 => v = .int .i64 (k : Int) | 6 => True | 7 => v = .tuple #[vv, .int .i64 (bn : Int)] | 8 => v = vv | 9 => True | 10 => v = .int .i64 (bn : Int) | 11 => True | _ => True)) hV rfl, hW⟩
                    · cases ho
                      have e1 : s 1 = _ := hV 1 (by decide) (hd 1 (by kernel_rfl))
                      simp only [e1] at hK ⊢
                      simp only [Act.put, List.setIfInBounds_toArray, List.set_cons_zero, List.set_cons_succ] at hK
                      go_simp
                      all_goals first | with_reducible exact hK.out _ _ ⟨val_upd (VAL := (fun j v => match j with | 0 => v = .pointer (some ⟨w.heap.size + 2, 0, none⟩) | 1 => v = .pointer (some ⟨w.heap.size + 2, 0, none⟩) | 2 => v = .pointer (some ⟨w.heap.size + 2, 2, none⟩) | 3 => v = .map (some (w.heap.size + 1)) | 4 => v = ceV c | 5 => v = .int .i64 (k : Int) | 6 => True | 7 => v = .tuple #[vv, .int .i64 (bn : Int)] | 8 => v = vv | 9 => True | 10 => v = .int .i64 (bn : Int) | 11 => True | _ => True)) hV rfl, hW⟩ | exact hK.out _ _ ⟨val_upd (VAL := (fun j v => match j with | 0 => v = .pointer (some ⟨w.heap.size + 2, 0, none⟩) | 1 => v = .pointer (some ⟨w.heap.size + 2, 0, none⟩) | 2 => v = .pointer (some ⟨w.heap.size + 2, 2, none⟩) | 3 => v = .map (some (w.heap.size + 1)) | 4 => v = ceV c | 5 => v = .int .i64 (k : Int) | 6 => True | 7 => v = .tuple #[vv, .int .i64 (bn : Int)] | 8 => v = vv | 9 => True | 10 => v = .int .i64 (bn : Int) | 11 => True | _ => True)) hV rfl, hW⟩
                    · cases ho
                      have e2 : s 2 = _ := hV 2 (by decide) (hd 2 (by kernel_rfl))
                      simp only [e2] at hK ⊢
                      simp only [Act.put, List.setIfInBounds_toArray, List.set_cons_zero, List.set_cons_succ] at hK
                      have h7 := not_yet hsh (k := 7) hLi (by decide) (by kernel_rfl) rfl
                      have bW := hW.1 h7
                      have t0 := keep bW c2
                      go_simp
                      all_goals first | with_reducible exact hK.out _ _ ⟨val_upd (VAL := (fun j v => match j with | 0 => v = .pointer (some ⟨w.heap.size + 2, 0, none⟩) | 1 => v = .pointer (some ⟨w.heap.size + 2, 0, none⟩) | 2 => v = .pointer (some ⟨w.heap.size + 2, 2, none⟩) | 3 => v = .map (some (w.heap.size + 1)) | 4 => v = ceV c | 5 => v = .int .i64 (k : Int) | 6 => True | 7 => v = .tuple #[vv, .int .i64 (bn : Int)] | 8 => v = vv | 9 => True | 10 => v = .int .i64 (bn : Int) | 11 => True | _ => True)) hV rfl, hW⟩ | exact hK.out _ _ ⟨val_upd (VAL := (fun j v => match j with | 0 => v = .pointer (some ⟨w.heap.size + 2, 0, none⟩) | 1 => v = .pointer (some ⟨w.heap.size + 2, 0, none⟩) | 2 => v = .pointer (some ⟨w.heap.size + 2, 2, none⟩) | 3 => v = .map (some (w.heap.size + 1)) | 4 => v = ceV c | 5 => v = .int .i64 (k : Int) | 6 => True | 7 => v = .tuple #[vv, .int .i64 (bn : Int)] | 8 => v = vv | 9 => True | 10 => v = .int .i64 (bn : Int) | 11 => True | _ => True)) hV rfl, hW⟩
                    · cases ho
                      simp only [Act.put, List.setIfInBounds_toArray, List.set_cons_zero, List.set_cons_succ] at hK
                      have h7 := not_yet hsh (k := 7) hLi (by decide) (by kernel_rfl) rfl
                      have bW := hW.1 h7
                      have t0 := keep bW x0
                      have t1 := keep bW x1
                      go_simp
                      all_goals first | with_reducible exact hK.out _ _ ⟨val_upd (VAL := (fun j v => match j with | 0 => v = .pointer (some ⟨w.heap.size + 2, 0, none⟩) | 1 => v = .pointer (some ⟨w.heap.size + 2, 0, none⟩) | 2 => v = .pointer (some ⟨w.heap.size + 2, 2, none⟩) | 3 => v = .map (some (w.heap.size + 1)) | 4 => v = ceV c | 5 => v = .int .i64 (k : Int) | 6 => True | 7 => v = .tuple #[vv, .int .i64 (bn : Int)] | 8 => v = vv | 9 => True | 10 => v = .int .i64 (bn : Int) | 11 => True | _ => True)) hV rfl, hW⟩ | exact hK.out _ _ ⟨val_upd (VAL := (fun j v => match j with | 0 => v = .pointer (some ⟨w.heap.size + 2, 0, none⟩) | 1 => v = .pointer (some ⟨w.heap.size + 2, 0, none⟩) | 2 => v = .pointer (some ⟨w.heap.size + 2, 2, none⟩) | 3 => v = .map (some (w.heap.size + 1)) | 4 => v = ceV c | 5 => v = .int .i64 (k : Int) | 6 => True | 7 => v = .tuple #[vv, .int .i64 (bn : Int)] | 8 => v = vv | 9 => True | 10 => v = .int .i64 (bn : Int) | 11 => True | _ => True)) hV rfl, hW⟩
                    · cases ho
                      simp only [Act.put, List.setIfInBounds_toArray, List.set_cons_zero, List.set_cons_succ] at hK
                      have h7 := not_yet hsh (k := 7) hLi (by decide) (by kernel_rfl) rfl
                      have bW := hW.1 h7
                      have t0 := keep bW ci
                      go_simp
                      all_goals first | with_reducible exact hK.out _ _ ⟨val_upd (VAL := (fun j v => match j with | 0 => v = .pointer (some ⟨w.heap.size + 2, 0, none⟩) | 1 => v = .pointer (some ⟨w.heap.size + 2, 0, none⟩) | 2 => v = .pointer (some ⟨w.heap.size + 2, 2, none⟩) | 3 => v = .map (some (w.heap.size + 1)) | 4 => v = ceV c | 5 => v = .int .i64 (k : Int) | 6 => True | 7 => v = .tuple #[vv, .int .i64 (bn : Int)] | 8 => v = vv | 9 => True | 10 => v = .int .i64 (bn : Int) | 11 => True | _ => True)) hV rfl, hW⟩ | exact hK.out _ _ ⟨val_upd (VAL := (fun j v => match j with | 0 => v = .pointer (some ⟨w.heap.size + 2, 0, none⟩) | 1 => v = .pointer (some ⟨w.heap.size + 2, 0, none⟩) | 2 => v = .pointer (some ⟨w.heap.size + 2, 2, none⟩) | 3 => v = .map (some (w.heap.size + 1)) | 4 => v = ceV c | 5 => v = .int .i64 (k : Int) | 6 => True | 7 => v = .tuple #[vv, .int .i64 (bn : Int)] | 8 => v = vv | 9 => True | 10 => v = .int .i64 (bn : Int) | 11 => True | _ => True)) hV rfl, hW⟩
                    · cases ho
                      simp only [Act.put, List.setIfInBounds_toArray, List.set_cons_zero, List.set_cons_succ] at hK
                      have h7 := not_yet hsh (k := 7) hLi (by decide) (by kernel_rfl) rfl
                      have h9 := not_yet hsh (k := 9) hLi (by decide) (by kernel_rfl) rfl
                      have h11 := not_yet hsh (k := 11) hLi (by decide) (by kernel_rfl) rfl
                      have bW := hW.1 h7
                      clear hW
                      have e5 : s 5 = _ := hV 5 (by decide) (hd 5 (by kernel_rfl))
                      simp only [e5] at hK ⊢
                      go_simp
                      exact hK.out _ _ ⟨val_upd (VAL := (fun j v => match j with | 0 => v = .pointer (some ⟨w.heap.size + 2, 0, none⟩) | 1 => v = .pointer (some ⟨w.heap.size + 2, 0, none⟩) | 2 => v = .pointer (some ⟨w.heap.size + 2, 2, none⟩) | 3 => v = .map (some (w.heap.size + 1)) | 4 => v = ceV c | 5 => v = .int .i64 (k : Int) | 6 => True | 7 => v = .tuple #[vv, .int .i64 (bn : Int)] | 8 => v = vv | 9 => True | 10 => v = .int .i64 (bn : Int) | 11 => True | _ => True)) hV trivial, fun _ => bl_alloc bW _ _, fun _ _ => ⟨_, rfl, mk_rw W [.int .i64 (k : Int)] 3⟩, fun h => Bool.noConfusion (h7.symm.trans h), fun h => Bool.noConfusion (h9.symm.trans h), fun h => Bool.noConfusion (h11.symm.trans h)⟩
                    · cases ho
                      simp only [Act.put, List.setIfInBounds_toArray, List.set_cons_zero, List.set_cons_succ] at hK
                      have h9 := not_yet hsh (k := 9) hLi (by decide) (by kernel_rfl) rfl
                      have h11 := not_yet hsh (k := 11) hLi (by decide) (by kernel_rfl) rfl
                      have bW := hW.1 hLi
                      obtain ⟨g9, e6, hS9⟩ := hW.2.1 (hd 6 (by kernel_rfl)) hLi
                      clear hW
                      have e3 : s 3 = _ := hV 3 (by decide) (hd 3 (by kernel_rfl))
                      have e4 : s 4 = _ := hV 4 (by decide) (hd 4 (by kernel_rfl))
                      simp only [e3, e4, e6] at hK ⊢
                      have hRW := hR.bel bW
                      obtain ⟨Wb, hrun, hE⟩ := hEnt W hRW.lay.mp
                      unfold goInt at hrun
                      obtain ⟨_, _, hoth, _, _⟩ := hRW.group hE
                      have hg9 : g9 ≠ w.heap.size + 1 := rw_ne hS9 hRW.lay.mp
                      go_simp
                      exact hK.out _ _ ⟨val_upd (VAL := (fun j v => match j with | 0 => v = .pointer (some ⟨w.heap.size + 2, 0, none⟩) | 1 => v = .pointer (some ⟨w.heap.size + 2, 0, none⟩) | 2 => v = .pointer (some ⟨w.heap.size + 2, 2, none⟩) | 3 => v = .map (some (w.heap.size + 1)) | 4 => v = ceV c | 5 => v = .int .i64 (k : Int) | 6 => True | 7 => v = .tuple #[vv, .int .i64 (bn : Int)] | 8 => v = vv | 9 => True | 10 => v = .int .i64 (bn : Int) | 11 => True | _ => True)) hV rfl, fun h => (by simp [updL] at h), fun _ h => (by simp [updL] at h), fun _ _ => ⟨W, g9, bW, e6, hS9.heap (hoth g9 hg9), hE⟩, fun h => Bool.noConfusion (h9.symm.trans h), fun h => Bool.noConfusion (h11.symm.trans h)⟩
                    · cases ho
                      simp only [Act.put, List.setIfInBounds_toArray, List.set_cons_zero, List.set_cons_succ] at hK
                      have h9 := not_yet hsh (k := 9) hLi (by decide) (by kernel_rfl) rfl
                      have h11 := not_yet hsh (k := 11) hLi (by decide) (by kernel_rfl) rfl
                      have hi7 := hd 7 (by kernel_rfl)
                      obtain hW3 := hW.2.2.1
                      have e7 : s 7 = _ := hV 7 (by decide) hi7
                      clear hW
                      simp only [e7] at hK ⊢
                      go_simp
                      exact hK.out _ _ ⟨val_upd (VAL := (fun j v => match j with | 0 => v = .pointer (some ⟨w.heap.size + 2, 0, none⟩) | 1 => v = .pointer (some ⟨w.heap.size + 2, 0, none⟩) | 2 => v = .pointer (some ⟨w.heap.size + 2, 2, none⟩) | 3 => v = .map (some (w.heap.size + 1)) | 4 => v = ceV c | 5 => v = .int .i64 (k : Int) | 6 => True | 7 => v = .tuple #[vv, .int .i64 (bn : Int)] | 8 => v = vv | 9 => True | 10 => v = .int .i64 (bn : Int) | 11 => True | _ => True)) hV rfl, fun h => Bool.noConfusion (h.symm.trans hi7), fun _ h => Bool.noConfusion (h.symm.trans hi7), hW3, fun h => Bool.noConfusion (h9.symm.trans h), fun h => Bool.noConfusion (h11.symm.trans h)⟩
                    · cases ho
                      simp only [Act.put, List.setIfInBounds_toArray, List.set_cons_zero, List.set_cons_succ] at hK
                      have h11 := not_yet hsh (k := 11) hLi (by decide) (by kernel_rfl) rfl
                      have hi7 := hd 7 (by kernel_rfl)
                      obtain ⟨Wa, g9, bW, e6, hS9, hE⟩ := hW.2.2.1 hi7 hLi
                      clear hW
                      have e8 : s 8 = _ := hV 8 (by decide) (hd 8 (by kernel_rfl))
                      simp only [e6, e8] at hK ⊢
                      have hRW := hR.bel bW
                      obtain ⟨hO8, hsb, hoth, _, _⟩ := hRW.group hE
                      obtain ⟨v9, w9, hrun, hO9, ⟨g, cp, rfl, hg9⟩, hOh⟩ := run_appU (P := Try.prog) (sz := 1) (by_ := 8) (N := [.int .i64 (k : Int)]) 29 29 3 Try.underlying29 info_int rfl g9 0 1 1 hO8 rfl hS9 one_int (by decide) (Nat.le_trans hRW.lay.sz hsb) hml hmr
                      refine oper_appi _ _ rfl rfl rfl hrun ?_
                      exact hK.out _ _ ⟨val_upd (VAL := (fun j v => match j with | 0 => v = .pointer (some ⟨w.heap.size + 2, 0, none⟩) | 1 => v = .pointer (some ⟨w.heap.size + 2, 0, none⟩) | 2 => v = .pointer (some ⟨w.heap.size + 2, 2, none⟩) | 3 => v = .map (some (w.heap.size + 1)) | 4 => v = ceV c | 5 => v = .int .i64 (k : Int) | 6 => True | 7 => v = .tuple #[vv, .int .i64 (bn : Int)] | 8 => v = vv | 9 => True | 10 => v = .int .i64 (bn : Int) | 11 => True | _ => True)) hV trivial, fun h => Bool.noConfusion (h.symm.trans hi7), fun _ h => Bool.noConfusion (h.symm.trans hi7), fun _ h => (by simp [updL] at h), fun _ _ => ⟨Wa, W, g, cp, bW, hE, rfl, hO9, hOh, hg9⟩, fun h => Bool.noConfusion (h11.symm.trans h)⟩
                    · cases ho
                      simp only [Act.put, List.setIfInBounds_toArray, List.set_cons_zero, List.set_cons_succ] at hK
                      have h11 := not_yet hsh (k := 11) hLi (by decide) (by kernel_rfl) rfl
                      have hi7 := hd 7 (by kernel_rfl)
                      have hW3 := hW.2.2
                      have e7 : s 7 = _ := hV 7 (by decide) hi7
                      clear hW
                      simp only [e7] at hK ⊢
                      go_simp
                      exact hK.out _ _ ⟨val_upd (VAL := (fun j v => match j with | 0 => v = .pointer (some ⟨w.heap.size + 2, 0, none⟩) | 1 => v = .pointer (some ⟨w.heap.size + 2, 0, none⟩) | 2 => v = .pointer (some ⟨w.heap.size + 2, 2, none⟩) | 3 => v = .map (some (w.heap.size + 1)) | 4 => v = ceV c | 5 => v = .int .i64 (k : Int) | 6 => True | 7 => v = .tuple #[vv, .int .i64 (bn : Int)] | 8 => v = vv | 9 => True | 10 => v = .int .i64 (bn : Int) | 11 => True | _ => True)) hV rfl, fun h => Bool.noConfusion (h.symm.trans hi7), fun _ h => Bool.noConfusion (h.symm.trans hi7), hW3.1, hW3.2.1, fun h => Bool.noConfusion (h11.symm.trans h)⟩
                    · cases ho
                      simp only [Act.put, List.setIfInBounds_toArray, List.set_cons_zero, List.set_cons_succ] at hK
                      have hi7 := hd 7 (by kernel_rfl)
                      have hi9 := hd 9 (by kernel_rfl)
                      obtain ⟨Wa, Wb, g, cp, bW, hE, e9, hO9, hOh, hg9⟩ := hW.2.2.2.1 hi9 hLi
                      clear hW
                      have e3 : s 3 = _ := hV 3 (by decide) (hd 3 (by kernel_rfl))
                      have e10 : s 10 = _ := hV 10 (by decide) (hd 10 (by kernel_rfl))
                      simp only [e3, e9, e10] at hK ⊢
                      have hRW := hR.bel bW
                      obtain ⟨_, _, _, _, hGr⟩ := hRW.group hE
                      obtain ⟨M1, ck1, j1, hMp1, hnd1, hj1, M2, ck2, hR2, hX2, hKf⟩ := hGr hO9 hOh hg9
                      have hrun := entry_store (P := Try.prog) (t := 58) hMp1 hnd1 hj1 (.slice (some ⟨g, 0, none⟩) (((grP B d k pre) c).length + 1) cp)
                      unfold goInt at hrun
                      obtain ⟨MO, hMO⟩ : ∃ MO, MO = (List.map mkE (M1.set j1 (c, Value.slice (some ⟨g, 0, none⟩) (((grP B d k pre) c).length + 1) cp, bn))).toArray := ⟨_, rfl⟩
                      rw [← hMO] at hrun hR2 hX2 hKf
                      clear hMO
                      go_simp
                      exact hK.out undef _ ⟨val_upd (VAL := (fun j v => match j with | 0 => v = .pointer (some ⟨w.heap.size + 2, 0, none⟩) | 1 => v = .pointer (some ⟨w.heap.size + 2, 0, none⟩) | 2 => v = .pointer (some ⟨w.heap.size + 2, 2, none⟩) | 3 => v = .map (some (w.heap.size + 1)) | 4 => v = ceV c | 5 => v = .int .i64 (k : Int) | 6 => True | 7 => v = .tuple #[vv, .int .i64 (bn : Int)] | 8 => v = vv | 9 => True | 10 => v = .int .i64 (bn : Int) | 11 => True | _ => True)) hV trivial, fun h => Bool.noConfusion (h.symm.trans hi7), fun _ h => Bool.noConfusion (h.symm.trans hi7), fun _ h => Bool.noConfusion (h.symm.trans hi9), fun _ h => (by simp [updL] at h), fun _ => ⟨⟨M2, ck2, hR2⟩, fun o => (heap_cell_eq ((hX2 q (by simp)).trans (bW.1.block q hqW)) o), (KeepsFrom.of_bel bW).trans (KeepsFrom.up hKf hA0)⟩⟩
                  case ht_w13 =>
                    intro s W hj
                    obtain ⟨hV, hW⟩ := hj
                    have e0 : s 0 = _ := hV 0 (by decide) rfl
                    have e1 : s 1 = _ := hV 1 (by decide) rfl
                    have e2 : s 2 = _ := hV 2 (by decide) rfl
                    have e3 : s 3 = _ := hV 3 (by decide) rfl
                    have e4 : s 4 = _ := hV 4 (by decide) rfl
                    have e5 : s 5 = _ := hV 5 (by decide) rfl
                    have e7 : s 7 = _ := hV 7 (by decide) rfl
                    have e8 : s 8 = _ := hV 8 (by decide) rfl
                    have e10 : s 10 = _ := hV 10 (by decide) rfl
                    simp only [e0, e1, e2, e3, e4, e5, e7, e8, e10]
                    clear hV e0 e1 e2 e3 e4 e5 e7 e8 e10
                    obtain ⟨⟨M', ck', hR'⟩, hkp, hkf⟩ := hW.2.2.2.2 rfl
                    clear hW
                    gi_wp2
                    exact ⟨hkf, hkp, M', ck', by rw [grP_snoc]; exact hR'⟩
                case hdone =>
                  rintro D W hDw ⟨M, ck, hR⟩ hdd
                  rw [grP_all hsmk, ← nums_yes hsmk, ← nums_no hwdk] at hR
                  gi_wp2
                  exact Handed.intro (n - (k + 1)) (by omega) (hJ _ _ _ (lay_I (Ds := D :: Ds) (v3 := u3) (v4 := v4) (M := M) (ck := ck) (Int.natCast_succ k).symm ⟨by omega, by omega, by simp [hds], List.nodup_cons.2 ⟨fun h => by have := hDl D h; omega, hnd⟩, fun E hE => by
                    rcases List.mem_cons.1 hE with rfl | hE
                    · exact ⟨by have := hR12.lay.sz; omega, hdd⟩
                    · exact hR.mrk E hE, hR.lay, hR.bl⟩))
            · gi_wp2
              refine wpIn_wide.2 ?_
              have hml := hml4
              have hmr := hmr4
              refine wp_region_inv 11 rfl (fun L s W => (∀ j, j < 11 → L j = true → (fun j v => match j with | 0 => v = .pointer (some ⟨w.heap.size + 2, 0, none⟩) | 1 => v = .pointer (some ⟨w.heap.size + 2, 0, none⟩) | 2 => v = .pointer (some ⟨w.heap.size + 2, 0, none⟩) | 3 => v = .pointer (some ⟨w.heap.size + 2, 4, none⟩) | 4 => v = v4 | 5 => v = .int .i64 (k : Int) | 6 => True | 7 => True | 8 => v = .pointer (some ⟨w.heap.size + 2, 0, none⟩) | 9 => v = .pointer (some ⟨w.heap.size + 2, 4, none⟩) | 10 => True | _ => True) j (s j)) ∧ ((L 7 = false → Bel w8 W) ∧ (L 6 = true → L 7 = false → ∃ g, s 6 = .slice (some ⟨g, 0, none⟩) 1 1 ∧ Rw W g 0 [.int .i64 (k : Int)]) ∧ (L 7 = true → L 10 = false → ∃ Wa g cp, Bel w8 Wa ∧ s 7 = (.slice (some ⟨g, 0, none⟩) ((nums (wdB B d) k).length + 1) cp) ∧ OwnR 1 (w.heap.size + 4) W (.slice (some ⟨g, 0, none⟩) ((nums (wdB B d) k).length + 1) cp) ((nums (wdB B d) k).length + 1) (iRow (nums (wdB B d) k) ++ [.int .i64 (k : Int)]) ∧ Oh v4 Wa W ∧ (Wa.heap.size ≤ g ∨ ∃ c, v4 = .slice (some ⟨g, 0, none⟩) (nums (wdB B d) k).length c)) ∧ (L 10 = true → ∃ u, RS w W n (some ⟨b, off, none⟩) cap d B k (k + 1) v3 u M ck (nums (smB B d) k) ((nums (wdB B d) k) ++ [k]) (grF B d k) p6 g8 [] Ds) ∧ (L 10 = false → W.cell? ⟨w.heap.size + 1 + 1 + 1, 0, none⟩ = some (.pointer (some ⟨w.heap.size + 2, 0, none⟩))))) ?A_w9a (by kernel_rfl) (by kernel_rfl) ?hA_w9a ?h0_w9a ?hq_w9a ?hJ_w9a ?ht_w9a
              case hA_w9a =>
                intro s
                simp only [putL, dstO, Act.put, List.getElem?_toArray, List.getElem?_cons_zero, List.getElem?_cons_succ, Option.bind_some, List.setIfInBounds_toArray, List.set_cons_zero, List.set_cons_succ, if_true]
                all_goals exact rfl
              case h0_w9a => exact ⟨fun j _ h => (by cases h), ⟨fun _ => bl_drew (bl_refl _), fun h => (by cases h), fun h => (by cases h), fun h => (by cases h), fun _ => keep (bl_drew (bl_refl _)) c5⟩⟩
              case hJ_w9a =>
                intro L L' s W h hj
                refine ⟨fun j hj2 hl => hj.1 j hj2 ((h j hj2).trans hl), ?_⟩
                have hj2 := hj.2
                rw [h 6 (by decide), h 7 (by decide), h 10 (by decide)] at hj2
                exact hj2
              case hq_w9a =>
                intro i o hi ho L s W hLi hd hsh hj K hK
                obtain ⟨hV, hW⟩ := hj
                rcases (show i = 0 ∨ i = 1 ∨ i = 2 ∨ i = 3 ∨ i = 4 ∨ i = 5 ∨ i = 6 ∨ i = 7 ∨ i = 8 ∨ i = 9 ∨ i = 10 by omega) with rfl | rfl | rfl | rfl | rfl | rfl | rfl | rfl | rfl | rfl | rfl
                · cases ho
                  simp only [Act.put, List.setIfInBounds_toArray, List.set_cons_zero, List.set_cons_succ] at hK
                  have h10 := not_yet hsh (k := 10) hLi (by decide) (by kernel_rfl) rfl
                  have t0 := hW.2.2.2.2 h10
                  go_simp
                  all_goals first | with_reducible exact hK.out _ _ ⟨val_upd (VAL := (fun j v => match j with | 0 => v = .pointer (some ⟨w.heap.size + 2, 0, none⟩) | 1 => v = .pointer (some ⟨w.heap.size + 2, 0, none⟩) | 2 => v = .pointer (some ⟨w.heap.size + 2, 0, none⟩) | 3 => v = .pointer (some ⟨w.heap.size + 2, 4, none⟩) | 4 => v = v4 | 5 => v = .int .i64 (k : Int) | 6 => True | 7 => True | 8 => v = .pointer (some ⟨w.heap.size + 2, 0, none⟩) | 9 => v = .pointer (some ⟨w.heap.size + 2, 4, none⟩) | 10 => True | _ => True)) hV rfl, hW⟩ | exact hK.out _ _ ⟨val_upd (VAL := (fun j v => match j with | 0 => v = .pointer (some ⟨w.heap.size + 2, 0, none⟩) | 1 => v = .pointer (some ⟨w.heap.size + 2, 0, none⟩) | 2 => v = .pointer (some ⟨w.heap.size + 2, 0, none⟩) | 3 => v = .pointer (some ⟨w.heap.size + 2, 4, none⟩) | 4 => v = v4 | 5 => v = .int .i64 (k : Int) | 6 => True | 7 => True | 8 => v = .pointer (some ⟨w.heap.size + 2, 0, none⟩) | 9 => v = .pointer (some ⟨w.heap.size + 2, 4, none⟩) | 10 => True | _ => True)) hV rfl, hW⟩
                · cases ho
                  simp only [Act.put, List.setIfInBounds_toArray, List.set_cons_zero, List.set_cons_succ] at hK
                  have h7 := not_yet hsh (k := 7) hLi (by decide) (by kernel_rfl) rfl
                  have bW := hW.1 h7
                  have t0 := keep bW c5
                  go_simp
                  all_goals first | with_reducible exact hK.out _ _ ⟨val_upd (VAL := (fun j v => match j with | 0 => v = .pointer (some ⟨w.heap.size + 2, 0, none⟩) | 1 => v = .pointer (some ⟨w.heap.size + 2, 0, none⟩) | 2 => v = .pointer (some ⟨w.heap.size + 2, 0, none⟩) | 3 => v = .pointer (some ⟨w.heap.size + 2, 4, none⟩) | 4 => v = v4 | 5 => v = .int .i64 (k : Int) | 6 => True | 7 => True | 8 => v = .pointer (some ⟨w.heap.size + 2, 0, none⟩) | 9 => v = .pointer (some ⟨w.heap.size + 2, 4, none⟩) | 10 => True | _ => True)) hV rfl, hW⟩ | exact hK.out _ _ ⟨val_upd (VAL := (fun j v => match j with | 0 => v = .pointer (some ⟨w.heap.size + 2, 0, none⟩) | 1 => v = .pointer (some ⟨w.heap.size + 2, 0, none⟩) | 2 => v = .pointer (some ⟨w.heap.size + 2, 0, none⟩) | 3 => v = .pointer (some ⟨w.heap.size + 2, 4, none⟩) | 4 => v = v4 | 5 => v = .int .i64 (k : Int) | 6 => True | 7 => True | 8 => v = .pointer (some ⟨w.heap.size + 2, 0, none⟩) | 9 => v = .pointer (some ⟨w.heap.size + 2, 4, none⟩) | 10 => True | _ => True)) hV rfl, hW⟩
                · cases ho
                  have e1 : s 1 = _ := hV 1 (by decide) (hd 1 (by kernel_rfl))
                  simp only [e1] at hK ⊢
                  simp only [Act.put, List.setIfInBounds_toArray, List.set_cons_zero, List.set_cons_succ] at hK
                  go_simp
                  all_goals first | with_reducible exact hK.out _ _ ⟨val_upd (VAL := (fun j v => match j with | 0 => v = .pointer (some ⟨w.heap.size + 2, 0, none⟩) | 1 => v = .pointer (some ⟨w.heap.size + 2, 0, none⟩) | 2 => v = .pointer (some ⟨w.heap.size + 2, 0, none⟩) | 3 => v = .pointer (some ⟨w.heap.size + 2, 4, none⟩) | 4 => v = v4 | 5 => v = .int .i64 (k : Int) | 6 => True | 7 => True | 8 => v = .pointer (some ⟨w.heap.size + 2, 0, none⟩) | 9 => v = .pointer (some ⟨w.heap.size + 2, 4, none⟩) | 10 => True | _ => True)) hV rfl, hW⟩ | exact hK.out _ _ ⟨val_upd (VAL := (fun j v => match j with | 0 => v = .pointer (some ⟨w.heap.size + 2, 0, none⟩) | 1 => v = .pointer (some ⟨w.heap.size + 2, 0, none⟩) | 2 => v = .pointer (some ⟨w.heap.size + 2, 0, none⟩) | 3 => v = .pointer (some ⟨w.heap.size + 2, 4, none⟩) | 4 => v = v4 | 5 => v = .int .i64 (k : Int) | 6 => True | 7 => True | 8 => v = .pointer (some ⟨w.heap.size + 2, 0, none⟩) | 9 => v = .pointer (some ⟨w.heap.size + 2, 4, none⟩) | 10 => True | _ => True)) hV rfl, hW⟩
                · cases ho
                  have e2 : s 2 = _ := hV 2 (by decide) (hd 2 (by kernel_rfl))
                  simp only [e2] at hK ⊢
                  simp only [Act.put, List.setIfInBounds_toArray, List.set_cons_zero, List.set_cons_succ] at hK
                  go_simp
                  all_goals first | with_reducible exact hK.out _ _ ⟨val_upd (VAL := (fun j v => match j with | 0 => v = .pointer (some ⟨w.heap.size + 2, 0, none⟩) | 1 => v = .pointer (some ⟨w.heap.size + 2, 0, none⟩) | 2 => v = .pointer (some ⟨w.heap.size + 2, 0, none⟩) | 3 => v = .pointer (some ⟨w.heap.size + 2, 4, none⟩) | 4 => v = v4 | 5 => v = .int .i64 (k : Int) | 6 => True | 7 => True | 8 => v = .pointer (some ⟨w.heap.size + 2, 0, none⟩) | 9 => v = .pointer (some ⟨w.heap.size + 2, 4, none⟩) | 10 => True | _ => True)) hV rfl, hW⟩ | exact hK.out _ _ ⟨val_upd (VAL := (fun j v => match j with | 0 => v = .pointer (some ⟨w.heap.size + 2, 0, none⟩) | 1 => v = .pointer (some ⟨w.heap.size + 2, 0, none⟩) | 2 => v = .pointer (some ⟨w.heap.size + 2, 0, none⟩) | 3 => v = .pointer (some ⟨w.heap.size + 2, 4, none⟩) | 4 => v = v4 | 5 => v = .int .i64 (k : Int) | 6 => True | 7 => True | 8 => v = .pointer (some ⟨w.heap.size + 2, 0, none⟩) | 9 => v = .pointer (some ⟨w.heap.size + 2, 4, none⟩) | 10 => True | _ => True)) hV rfl, hW⟩
                · cases ho
                  have e3 : s 3 = _ := hV 3 (by decide) (hd 3 (by kernel_rfl))
                  simp only [e3] at hK ⊢
                  simp only [Act.put, List.setIfInBounds_toArray, List.set_cons_zero, List.set_cons_succ] at hK
                  have h7 := not_yet hsh (k := 7) hLi (by decide) (by kernel_rfl) rfl
                  have bW := hW.1 h7
                  have t0 := keep bW c4
                  go_simp
                  all_goals first | with_reducible exact hK.out _ _ ⟨val_upd (VAL := (fun j v => match j with | 0 => v = .pointer (some ⟨w.heap.size + 2, 0, none⟩) | 1 => v = .pointer (some ⟨w.heap.size + 2, 0, none⟩) | 2 => v = .pointer (some ⟨w.heap.size + 2, 0, none⟩) | 3 => v = .pointer (some ⟨w.heap.size + 2, 4, none⟩) | 4 => v = v4 | 5 => v = .int .i64 (k : Int) | 6 => True | 7 => True | 8 => v = .pointer (some ⟨w.heap.size + 2, 0, none⟩) | 9 => v = .pointer (some ⟨w.heap.size + 2, 4, none⟩) | 10 => True | _ => True)) hV rfl, hW⟩ | exact hK.out _ _ ⟨val_upd (VAL := (fun j v => match j with | 0 => v = .pointer (some ⟨w.heap.size + 2, 0, none⟩) | 1 => v = .pointer (some ⟨w.heap.size + 2, 0, none⟩) | 2 => v = .pointer (some ⟨w.heap.size + 2, 0, none⟩) | 3 => v = .pointer (some ⟨w.heap.size + 2, 4, none⟩) | 4 => v = v4 | 5 => v = .int .i64 (k : Int) | 6 => True | 7 => True | 8 => v = .pointer (some ⟨w.heap.size + 2, 0, none⟩) | 9 => v = .pointer (some ⟨w.heap.size + 2, 4, none⟩) | 10 => True | _ => True)) hV rfl, hW⟩
                · cases ho
                  simp only [Act.put, List.setIfInBounds_toArray, List.set_cons_zero, List.set_cons_succ] at hK
                  have h7 := not_yet hsh (k := 7) hLi (by decide) (by kernel_rfl) rfl
                  have bW := hW.1 h7
                  have t0 := keep bW ci
                  go_simp
                  all_goals first | with_reducible exact hK.out _ _ ⟨val_upd (VAL := (fun j v => match j with | 0 => v = .pointer (some ⟨w.heap.size + 2, 0, none⟩) | 1 => v = .pointer (some ⟨w.heap.size + 2, 0, none⟩) | 2 => v = .pointer (some ⟨w.heap.size + 2, 0, none⟩) | 3 => v = .pointer (some ⟨w.heap.size + 2, 4, none⟩) | 4 => v = v4 | 5 => v = .int .i64 (k : Int) | 6 => True | 7 => True | 8 => v = .pointer (some ⟨w.heap.size + 2, 0, none⟩) | 9 => v = .pointer (some ⟨w.heap.size + 2, 4, none⟩) | 10 => True | _ => True)) hV rfl, hW⟩ | exact hK.out _ _ ⟨val_upd (VAL := (fun j v => match j with | 0 => v = .pointer (some ⟨w.heap.size + 2, 0, none⟩) | 1 => v = .pointer (some ⟨w.heap.size + 2, 0, none⟩) | 2 => v = .pointer (some ⟨w.heap.size + 2, 0, none⟩) | 3 => v = .pointer (some ⟨w.heap.size + 2, 4, none⟩) | 4 => v = v4 | 5 => v = .int .i64 (k : Int) | 6 => True | 7 => True | 8 => v = .pointer (some ⟨w.heap.size + 2, 0, none⟩) | 9 => v = .pointer (some ⟨w.heap.size + 2, 4, none⟩) | 10 => True | _ => True)) hV rfl, hW⟩
                · cases ho
                  simp only [Act.put, List.setIfInBounds_toArray, List.set_cons_zero, List.set_cons_succ] at hK
                  have h7 := not_yet hsh (k := 7) hLi (by decide) (by kernel_rfl) rfl
                  have h10 := not_yet hsh (k := 10) hLi (by decide) (by kernel_rfl) rfl
                  have bW := hW.1 h7
                  clear hW
                  have e5 : s 5 = _ := hV 5 (by decide) (hd 5 (by kernel_rfl))
                  simp only [e5] at hK ⊢
                  go_simp
                  exact hK.out _ _ ⟨val_upd (VAL := (fun j v => match j with | 0 => v = .pointer (some ⟨w.heap.size + 2, 0, none⟩) | 1 => v = .pointer (some ⟨w.heap.size + 2, 0, none⟩) | 2 => v = .pointer (some ⟨w.heap.size + 2, 0, none⟩) | 3 => v = .pointer (some ⟨w.heap.size + 2, 4, none⟩) | 4 => v = v4 | 5 => v = .int .i64 (k : Int) | 6 => True | 7 => True | 8 => v = .pointer (some ⟨w.heap.size + 2, 0, none⟩) | 9 => v = .pointer (some ⟨w.heap.size + 2, 4, none⟩) | 10 => True | _ => True)) hV trivial, fun _ => bl_alloc bW _ _, fun _ _ => ⟨_, rfl, mk_rw W [.int .i64 (k : Int)] 3⟩, fun h => Bool.noConfusion (h7.symm.trans h), fun h => Bool.noConfusion (h10.symm.trans h), fun _ => keep (bl_alloc bW _ _) c5⟩
                · cases ho
                  simp only [Act.put, List.setIfInBounds_toArray, List.set_cons_zero, List.set_cons_succ] at hK
                  have h10 := not_yet hsh (k := 10) hLi (by decide) (by kernel_rfl) rfl
                  have bW := hW.1 hLi
                  obtain ⟨g9, e6, hS9⟩ := hW.2.1 (hd 6 (by kernel_rfl)) hLi
                  clear hW
                  have e4 : s 4 = _ := hV 4 (by decide) (hd 4 (by kernel_rfl))
                  simp only [e4, e6] at hK ⊢
                  have hRW := hR8.bel bW
                  obtain ⟨v9, w9, hrun, hO9, ⟨g, cp, rfl, hg9⟩, hOh⟩ := run_appU (P := Try.prog) (sz := 1) (by_ := 8) (N := [.int .i64 (k : Int)]) 29 29 3 Try.underlying29 info_int rfl g9 0 1 1 hRW.lay.o4 rfl hS9 one_int (by decide) hRW.lay.sz hml hmr
                  refine oper_appi _ _ rfl rfl rfl hrun ?_
                  exact hK.out _ _ ⟨val_upd (VAL := (fun j v => match j with | 0 => v = .pointer (some ⟨w.heap.size + 2, 0, none⟩) | 1 => v = .pointer (some ⟨w.heap.size + 2, 0, none⟩) | 2 => v = .pointer (some ⟨w.heap.size + 2, 0, none⟩) | 3 => v = .pointer (some ⟨w.heap.size + 2, 4, none⟩) | 4 => v = v4 | 5 => v = .int .i64 (k : Int) | 6 => True | 7 => True | 8 => v = .pointer (some ⟨w.heap.size + 2, 0, none⟩) | 9 => v = .pointer (some ⟨w.heap.size + 2, 4, none⟩) | 10 => True | _ => True)) hV trivial, fun h => (by simp [updL] at h), fun _ h => (by simp [updL] at h), fun _ _ => ⟨W, g, cp, bW, rfl, hO9, hOh, hg9⟩, fun h => Bool.noConfusion (h10.symm.trans h), fun _ => (heap_cell_eq (hOh.block _ (by have := hRW.lay.sz; omega) (lay_ne3 hRW.lay (by simp))) 0).trans (keep bW c5)⟩
                · cases ho
                  have e0 : s 0 = _ := hV 0 (by decide) (hd 0 (by kernel_rfl))
                  simp only [e0] at hK ⊢
                  simp only [Act.put, List.setIfInBounds_toArray, List.set_cons_zero, List.set_cons_succ] at hK
                  go_simp
                  all_goals first | with_reducible exact hK.out _ _ ⟨val_upd (VAL := (fun j v => match j with | 0 => v = .pointer (some ⟨w.heap.size + 2, 0, none⟩) | 1 => v = .pointer (some ⟨w.heap.size + 2, 0, none⟩) | 2 => v = .pointer (some ⟨w.heap.size + 2, 0, none⟩) | 3 => v = .pointer (some ⟨w.heap.size + 2, 4, none⟩) | 4 => v = v4 | 5 => v = .int .i64 (k : Int) | 6 => True | 7 => True | 8 => v = .pointer (some ⟨w.heap.size + 2, 0, none⟩) | 9 => v = .pointer (some ⟨w.heap.size + 2, 4, none⟩) | 10 => True | _ => True)) hV rfl, hW⟩ | exact hK.out _ _ ⟨val_upd (VAL := (fun j v => match j with | 0 => v = .pointer (some ⟨w.heap.size + 2, 0, none⟩) | 1 => v = .pointer (some ⟨w.heap.size + 2, 0, none⟩) | 2 => v = .pointer (some ⟨w.heap.size + 2, 0, none⟩) | 3 => v = .pointer (some ⟨w.heap.size + 2, 4, none⟩) | 4 => v = v4 | 5 => v = .int .i64 (k : Int) | 6 => True | 7 => True | 8 => v = .pointer (some ⟨w.heap.size + 2, 0, none⟩) | 9 => v = .pointer (some ⟨w.heap.size + 2, 4, none⟩) | 10 => True | _ => True)) hV rfl, hW⟩
                · cases ho
                  have e8 : s 8 = _ := hV 8 (by decide) (hd 8 (by kernel_rfl))
                  simp only [e8] at hK ⊢
                  simp only [Act.put, List.setIfInBounds_toArray, List.set_cons_zero, List.set_cons_succ] at hK
                  go_simp
                  all_goals first | with_reducible exact hK.out _ _ ⟨val_upd (VAL := (fun j v => match j with | 0 => v = .pointer (some ⟨w.heap.size + 2, 0, none⟩) | 1 => v = .pointer (some ⟨w.heap.size + 2, 0, none⟩) | 2 => v = .pointer (some ⟨w.heap.size + 2, 0, none⟩) | 3 => v = .pointer (some ⟨w.heap.size + 2, 4, none⟩) | 4 => v = v4 | 5 => v = .int .i64 (k : Int) | 6 => True | 7 => True | 8 => v = .pointer (some ⟨w.heap.size + 2, 0, none⟩) | 9 => v = .pointer (some ⟨w.heap.size + 2, 4, none⟩) | 10 => True | _ => True)) hV rfl, hW⟩ | exact hK.out _ _ ⟨val_upd (VAL := (fun j v => match j with | 0 => v = .pointer (some ⟨w.heap.size + 2, 0, none⟩) | 1 => v = .pointer (some ⟨w.heap.size + 2, 0, none⟩) | 2 => v = .pointer (some ⟨w.heap.size + 2, 0, none⟩) | 3 => v = .pointer (some ⟨w.heap.size + 2, 4, none⟩) | 4 => v = v4 | 5 => v = .int .i64 (k : Int) | 6 => True | 7 => True | 8 => v = .pointer (some ⟨w.heap.size + 2, 0, none⟩) | 9 => v = .pointer (some ⟨w.heap.size + 2, 4, none⟩) | 10 => True | _ => True)) hV rfl, hW⟩
                · cases ho
                  simp only [Act.put, List.setIfInBounds_toArray, List.set_cons_zero, List.set_cons_succ] at hK
                  have hia := hd 7 (by kernel_rfl)
                  obtain ⟨Wa, g, cp, bW, e7, hO9, hOh, hg9⟩ := hW.2.2.1 hia hLi
                  clear hW
                  have e9 : s 9 = _ := hV 9 (by decide) (hd 9 (by kernel_rfl))
                  simp only [e7, e9] at hK ⊢
                  have hRW := hR8.bel bW
                  have hgz := hRW.lay.g6.oh hOh (lay_ne hRW.lay (by simp))
                  have cz := hgz.c4
                  have fz := hgz.fr 4
                  go_simp
                  exact hK.out undef _ ⟨val_upd (VAL := (fun j v => match j with | 0 => v = .pointer (some ⟨w.heap.size + 2, 0, none⟩) | 1 => v = .pointer (some ⟨w.heap.size + 2, 0, none⟩) | 2 => v = .pointer (some ⟨w.heap.size + 2, 0, none⟩) | 3 => v = .pointer (some ⟨w.heap.size + 2, 4, none⟩) | 4 => v = v4 | 5 => v = .int .i64 (k : Int) | 6 => True | 7 => True | 8 => v = .pointer (some ⟨w.heap.size + 2, 0, none⟩) | 9 => v = .pointer (some ⟨w.heap.size + 2, 4, none⟩) | 10 => True | _ => True)) hV trivial, fun h => Bool.noConfusion (h.symm.trans hia), fun _ h => Bool.noConfusion (h.symm.trans hia), fun _ h => (by simp [updL] at h), fun _ => ⟨_, hRW.push4 hO9 hOh hg9⟩, fun h => (by simp [updL] at h)⟩
              case ht_w9a =>
                intro s W hj
                obtain ⟨hV, hW⟩ := hj
                have e0 : s 0 = _ := hV 0 (by decide) rfl
                have e1 : s 1 = _ := hV 1 (by decide) rfl
                have e2 : s 2 = _ := hV 2 (by decide) rfl
                have e3 : s 3 = _ := hV 3 (by decide) rfl
                have e4 : s 4 = _ := hV 4 (by decide) rfl
                have e5 : s 5 = _ := hV 5 (by decide) rfl
                have e8 : s 8 = _ := hV 8 (by decide) rfl
                have e9 : s 9 = _ := hV 9 (by decide) rfl
                simp only [e0, e1, e2, e3, e4, e5, e8, e9]
                clear hV e0 e1 e2 e3 e4 e5 e8 e9
                obtain ⟨u4, hRu⟩ := hW.2.2.2.1 rfl
                clear hW
                gi_wp2
                have hwdk : wdB B d k = true := by unfold wdB; rw [hv, hwd]; rfl
                have hsmk : smB B d k = false := by unfold smB; rw [hv, hwd]; rfl
                have hL1 := hRu.lay
                rw [← nums_yes hwdk, ← nums_no hsmk, ← grF_no hsmk] at hL1
                exact Handed.intro (n - (k + 1)) (by omega) (hJ _ _ _ (lay_I (Ds := Ds) (v3 := v3) (v4 := u4) (M := M) (ck := ck) (Int.natCast_succ k).symm ⟨by omega, by omega, hds, hnd, hRu.mrk, hL1, hRu.bl⟩))
    · have hk : k = n := by omega
      subst hk
      have c5 : Wr.cell? ⟨w.heap.size + 1 + 1 + 1, 0, none⟩ = some (.pointer (some ⟨w.heap.size + 2, 0, none⟩)) := hLS.cg
      gi_wp2
      refine leaves_marks ds Ds Wr hds hnd (fun D h => (hD D h).2) (fun W' hS => ?_)
      refine ⟨.pointer (some ⟨w.heap.size + 2, 0, none⟩), ?_, rfl, ⟨v3, v4, M, ck, hLS.shut hS hD⟩, shut_below hBl hS (fun D h => by have := (hD D h).1; omega)⟩
      simp [results, Try.results19, go_sem]

end Go.Proofs.Ytekhnolpgoejdab
