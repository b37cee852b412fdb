/-
  What each function of package poly answers, and what the reference of its chapter answers: one contract a function, for every float: the answer stands in the relation of its formula to what was given; of the memory that was there nothing has turned.
-/
import Derived.Test.YtmgoancijepeoaaVec
import Derived.Test.YtmgoancijepeoaaDb
import Derived.Test.YtmgoancijepeoaaPj
import Derived.Test.YtmgoancijepeoaaApw
import Derived.Below
import Derived.LoopN
import Derived.Laws.AppendOwn
import Derived.WalkKit
import Derived.WalkLawsBesides
import Derived.WalkSpells
import Derived.ProofKit
import Derived.OpenShut
import Derived.Deep.RegionHeld3
namespace Go.Proofs.Ytmgoancijepeoaa
open Go.ChangeShapes Go.WideShapes Go.ChangeAt Go.RowKit
set_option linter.unusedVariables false
set_option linter.unusedSimpArgs false


set_option maxRecDepth 100000 in
/-- points put behind a row of the call's own, and what of the new blocks stays -/
theorem run_app9 {base : Nat} {WR w : World} {v : Value} {L M : List Pt} (ty a ao c : Nat) (hO : Own base WR v L) (hBX : Bel WR w) (hs : Sl w a ao M.length (px M) (py M)) (hM : 0 < M.length) (hb : base ≤ w.heap.size) (hr : (L.length + M.length) * 16 ≤ 225000000000000) :
    ∃ v' w', (Builtin.append_ #[31, 31] ty #[v, .slice (some ⟨a, ao, none⟩) M.length c]).run Try.prog w = .ok v' w' ∧ Own base w' v' (L ++ M) ∧ (∀ W0, Bel W0 w → W0.heap.size ≤ base → Bel W0 w') ∧ (∀ q o u, WR.heap.size ≤ q → w.cell? ⟨q, o, none⟩ = some u → w'.cell? ⟨q, o, none⟩ = some u) := by
  obtain ⟨v', w', hrun, h1, h2⟩ := run_appw ty a ao c (hO.bel hBX) hs hM hb hr
  refine ⟨v', w', hrun, h1, h2, fun q o u hq hu => ?_⟩
  have hql := World.block_lt_of_cell? _ _ hu
  simp only at hql
  rcases hO with ⟨rfl, rfl⟩ | ⟨g, cap, rfl, k1, k2, k3, k4, k5, k6⟩
  · -- nothing was there: a new block is laid
    obtain ⟨v2, w2, hrun2, _, h22⟩ := run_appw (base := w.heap.size) ty a ao c (Own.nil w.heap.size w) hs hM (Nat.le_refl _) (by simpa using hr)
    rw [hrun] at hrun2
    injection hrun2 with e1 e2
    subst e1 e2
    exact keep (h22 w (bl_refl w) (Nat.le_refl _)) hu
  · by_cases hroom : L.length + M.length ≤ cap
    · have hO2 : Own base w (.slice (some ⟨g, 0, none⟩) L.length cap) L := (show Own base WR (.slice (some ⟨g, 0, none⟩) L.length cap) L from .inr ⟨g, cap, rfl, k1, k2, k3, k4, k5, k6⟩).bel hBX
      have hg : g < WR.heap.size := by
        obtain ⟨u0, hu0⟩ := Option.isSome_iff_exists.1 (k5 0 (by omega))
        exact World.block_lt_of_cell? _ _ hu0
      have k5' : ∀ j, j < cap * 2 → (w.cell? ⟨g, j, none⟩).isSome = true := fun j hj => some_bel hBX (k5 j hj)
      obtain ⟨r1, r2⟩ := run_app_room w ty g 0 L.length cap a ao M.length c _ _ hs hroom (fun j hj => by rw [Nat.zero_add]; exact k5' _ (by omega)) (fun o => (hBX.2 _).trans (k6 o))
      rw [hrun] at r1
      injection r1 with e1 e2
      subst e1 e2
      have mo : Mo g w (w.setCells g (0 + L.length * 2) (prRow (px M) (py M) M.length)) := (Mo.refl g w).sets _ _
      exact (mo.cell q o hql (by omega)).trans hu
    · -- the row grows: a new block is laid
      obtain ⟨i0, hi, hz0, hz1, hz2⟩ := info_parts info_vec
      have hml : L.length + M.length ≤ maxLen := by unfold maxLen; omega
      have hr' := run_append_grow (P := Try.prog) w 31 ty 24 i0 (.agg #[.float .f64 0, .float .f64 0]) Try.underlying31 hi hz0 ⟨g, 0, none⟩ L.length cap (prRow (px L) (py L) L.length) (by rw [hz1, prRow_length]) (prRow_cells (k4.bel hBX)) ⟨a, ao, none⟩ M.length c (prRow (px M) (py M) M.length) (by rw [hz1, prRow_length]) (prRow_cells hs) (by omega) (by unfold maxLen at hml; omega) (by rw [hz2]; exact growslice_fits_wide (by omega) (by omega))
      rw [hrun] at hr'
      injection hr' with e1 e2
      subst e1 e2
      exact keep (bl_alloc (bl_drew (bl_refl w)) _ _) hu
theorem wpList_app9 {base : Nat} {WR w : World} {v : Value} {L M : List Pt} {ops : Array Oper} {rest : List Oper} {o : Oper} {a : Act} {Q : Exit → Act → World → Prop} (hgd : o.guard = none) (s x : Operand)
    (ho : o.op = .call { callee := .builtin .append, args := #[s, x], argTypes := #[31, 31] }) (hv : a.eval s = v) (b ao c : Nat) (hx : a.eval x = .slice (some ⟨b, ao, none⟩) M.length c)
    (hO : Own base WR v L) (hBX : Bel WR w) (hs : Sl w b ao M.length (px M) (py M)) (hM : 0 < M.length) (hb : base ≤ w.heap.size) (hr : (L.length + M.length) * 16 ≤ 225000000000000)
    (hK : ∀ v' w', Own base w' v' (L ++ M) → (∀ W0, Bel W0 w → W0.heap.size ≤ base → Bel W0 w') → (∀ q o u, WR.heap.size ≤ q → w.cell? ⟨q, o, none⟩ = some u → w'.cell? ⟨q, o, none⟩ = some u) → wpList Try.prog ops Q rest (a.put o.dst v') w') : wpList Try.prog ops Q (o :: rest) a w := by
  obtain ⟨v', w', hrun, h1, h2, h3⟩ := run_app9 o.type b ao c hO hBX hs hM hb hr
  refine wpList_plain hgd fun K hK' => ?_
  unfold Oper.wp
  simp [execOp, ho, resolve, invoke, builtin, hv, hx, hrun, Result.andThen]
  exact hK' _ _ (hK v' w' h1 h2 h3)
/-- a row of points, whosever -/
def RowS (base : Nat) (w : World) (v : Value) (M : List Pt) : Prop := ∃ a c, v = .slice a M.length c ∧ M.length ≤ c ∧ (M.length = 0 ∨ ∃ g o, a = some ⟨g, o, none⟩ ∧ base ≤ g ∧ Sl w g o M.length (px M) (py M))
theorem RowS.bel {base : Nat} {w w' : World} {v : Value} {M : List Pt} (h : RowS base w v M) (g : Bel w w') : RowS base w' v M := by
  obtain ⟨a, c, e, h1, h2⟩ := h
  refine ⟨a, c, e, h1, ?_⟩
  rcases h2 with h2 | ⟨q, o, h2, hb, h3⟩
  · exact .inl h2
  · exact .inr ⟨q, o, h2, hb, h3.bel g⟩
theorem RowS.low {a base : Nat} {w : World} {v : Value} {M : List Pt} (h : RowS base w v M) (g : a ≤ base) : RowS a w v M := by
  obtain ⟨a, c, e, h1, h2⟩ := h
  refine ⟨a, c, e, h1, ?_⟩
  rcases h2 with h2 | ⟨q, o, h2, hb, h3⟩
  · exact .inl h2
  · exact .inr ⟨q, o, h2, Nat.le_trans g hb, h3⟩
theorem Own.rows {base : Nat} {w : World} {v : Value} {L : List Pt} (h : Own base w v L) : RowS base w v L := by
  rcases h with ⟨rfl, rfl⟩ | ⟨g, cap, rfl, k1, k2, k3, k4, k5, k6⟩
  · exact ⟨none, 0, rfl, Nat.le_refl _, .inl rfl⟩
  · exact ⟨_, _, rfl, k2, .inr ⟨g, 0, rfl, k1, k4⟩⟩

set_option maxRecDepth 100000 in
set_option maxHeartbeats 8000000 in
theorem rleft_d (b off n cap : Nat) (L : List Pt) (k nx ny fd : Nat) (w : World) (hl : L.length = n) (hs : Sl w b off n (px L) (py L)) (hn0 : 0 < n) (hn : n ≤ 8000000000000) (hcap : n ≤ cap) (hp : PnB (nx, ny, fd)) (hL : PsB k L) (hk : k ≤ 600) : Calls Try.prog 57 #[.agg #[.float .f64 nx, .float .f64 ny, .float .f64 fd], .slice (some ⟨b, off, none⟩) n cap] w fun e w' => ∃ v, e = .returned v ∧ RowS w.heap.size w' v (leftL (nx, ny, fd) L) ∧ Bel w w' := by
  have qe := run_eqv
  have hmax : n ≤ maxLen := by unfold maxLen; omega
  unfold maxLen at hmax
  have hlb := hs.lt hn0
  have hne : ¬ n = 0 := by omega
  have hnI : ¬ (n : Int) = 0 := by omega
  have rowN9 : ∀ kx j, kx < n → j = (kx + 1) % n → rowN (nx, ny, fd) L (kx + 1) = rowN (nx, ny, fd) L kx ++ sideL (nx, ny, fd) (px L kx, py L kx) (px L j, py L j) := fun kx j hkx hj => by
    rw [hj]
    simp only [rowN, hl]
    rfl
  have z0_0 : (w.alloc (.cells #[.float .f64 nx, .float .f64 ny, .float .f64 fd] 26)).cell? ⟨w.heap.size, 0, none⟩ = some (.float .f64 nx) := by rw [World.cell?_alloc_new]; rfl
  have z0_1 : (w.alloc (.cells #[.float .f64 nx, .float .f64 ny, .float .f64 fd] 26)).cell? ⟨w.heap.size, 1, none⟩ = some (.float .f64 ny) := by rw [World.cell?_alloc_new]; rfl
  have z0_2 : (w.alloc (.cells #[.float .f64 nx, .float .f64 ny, .float .f64 fd] 26)).cell? ⟨w.heap.size, 2, none⟩ = some (.float .f64 fd) := by rw [World.cell?_alloc_new]; rfl
  have B0 : Bel w (w.alloc (.cells #[.float .f64 nx, .float .f64 ny, .float .f64 fd] 26)) := bl_alloc (bl_refl w) _ _
  go_enter Try.func57, Try.ntmps57
  go_wp2
  go_loopw [6, 5] (fun i' v' wr => ∃ kx : Nat, kx ≤ n ∧ i' = .int .i64 kx ∧ Bel (w.alloc (.cells #[.float .f64 nx, .float .f64 ny, .float .f64 fd] 26)) wr ∧ Own (w.heap.size + 1) wr v' (rowN (nx, ny, fd) L kx)) (fun i' _ _ => n - (intOf i').toNat)
  case atStart => exact ⟨0, by omega, rfl, bl_refl _, Own.nil _ _⟩
  case round =>
    obtain ⟨kx, hkn, rfl, hB, hO⟩ := hrel
    by_cases hlt : kx < n
    · have k1 : (kx : Int) < (n : Int) := by omega
      have wi : IntKind.wrap .i64 ((kx : Int) + 1) = (kx : Int) + 1 := by rw [IntKind.wrap_i64]; omega
      obtain ⟨j, hjd⟩ : ∃ j, j = (kx + 1) % n := ⟨_, rfl⟩
      have hj : j < n := by rw [hjd]; exact Nat.mod_lt _ (by omega)
      have et : ((kx : Int) + 1).tmod (n : Int) = (j : Int) := by rw [hjd]; exact tmod_nat kx n
      have j0 : (0 : Int) ≤ (j : Int) := by omega
      have j1 : (j : Int) < (n : Int) := by omega
      have rowN9 := rowN9 kx j hlt hjd
      clear hjd
      have ha : PtB k (px L kx, py L kx) := hL _ (pt_mem (by omega))
      have hb_ : PtB k (px L j, py L j) := hL _ (pt_mem (by omega))
      have BWr := bl_trans B0 hB
      have zr := hB.size
      rw [World.size_alloc] at zr
      obtain ⟨x0, x1⟩ := (hs.bel BWr) kx hlt
      obtain ⟨x2, x3⟩ := (hs.bel (bl_alloc BWr #[.float .f64 (px L kx), .float .f64 (py L kx)] 24)) j hj
      have lW := World.block_lt_of_cell? _ _ x0
      simp only at lW
      have BW2 : Bel wr ((wr.alloc (.cells #[.float .f64 (px L kx), .float .f64 (py L kx)] 24)).alloc (.cells #[.float .f64 (px L j), .float .f64 (py L j)] 24)) := bl_alloc (bl_alloc (bl_refl _) _ _) _ _
      have hB2 := bl_trans hB BW2
      have xa0 : ((wr.alloc (.cells #[.float .f64 (px L kx), .float .f64 (py L kx)] 24)).alloc (.cells #[.float .f64 (px L j), .float .f64 (py L j)] 24)).cell? ⟨wr.heap.size, 0, none⟩ = some (.float .f64 (px L kx)) := up_alloc (by rw [World.cell?_alloc_new]; rfl)
      have xa1 : ((wr.alloc (.cells #[.float .f64 (px L kx), .float .f64 (py L kx)] 24)).alloc (.cells #[.float .f64 (px L j), .float .f64 (py L j)] 24)).cell? ⟨wr.heap.size, 1, none⟩ = some (.float .f64 (py L kx)) := up_alloc (by rw [World.cell?_alloc_new]; rfl)
      have xb0 : ((wr.alloc (.cells #[.float .f64 (px L kx), .float .f64 (py L kx)] 24)).alloc (.cells #[.float .f64 (px L j), .float .f64 (py L j)] 24)).cell? ⟨wr.heap.size + 1, 0, none⟩ = some (.float .f64 (px L j)) := by rw [← World.size_alloc wr (.cells #[.float .f64 (px L kx), .float .f64 (py L kx)] 24), World.cell?_alloc_new]; rfl
      have xb1 : ((wr.alloc (.cells #[.float .f64 (px L kx), .float .f64 (py L kx)] 24)).alloc (.cells #[.float .f64 (px L j), .float .f64 (py L j)] 24)).cell? ⟨wr.heap.size + 1, 1, none⟩ = some (.float .f64 (py L j)) := by rw [← World.size_alloc wr (.cells #[.float .f64 (px L kx), .float .f64 (py L kx)] 24), World.cell?_alloc_new]; rfl
      have xp0 := keep hB2 z0_0
      have xp1 := keep hB2 z0_1
      have xp2 := keep hB2 z0_2
      cases h1 : wiB (nx, ny, fd) (px L kx, py L kx) <;> cases h2 : wiB (nx, ny, fd) (px L j, py L j)
      · have hsd : sideL (nx, ny, fd) ((px L kx), (py L kx)) ((px L j), (py L j)) = [] := by
          unfold sideL
          rw [h1, h2]
          rfl
        go_wp2_with (first | (go_at_call 48; (first | with_reducible refine (rwithin_d _ hp ha hk).mono ?_ | with_reducible refine (rwithin_d _ hp hb_ hk).mono ?_); rintro e w_a ⟨rfl, hba⟩; (first | rw [h1] | rw [h2]); have BX := bl_trans hB2 hba; have ya0 := keep hba xa0; have ya1 := keep hba xa1; have yb0 := keep hba xb0; have yb1 := keep hba xb1; have yp0 := keep hba xp0; have yp1 := keep hba xp1; have yp2 := keep hba xp2; have hOx := (hO.bel BW2).bel hba))
        refine wp_region_mono 7 rfl (fun i W v => match i with | 0 => v = .agg #[.float .f64 nx, .float .f64 ny, .float .f64 fd] | 1 => v = .agg #[.float .f64 (px L kx), .float .f64 (py L kx)] | 2 => v = .bool false | 3 => v = .agg #[.float .f64 nx, .float .f64 ny, .float .f64 fd] | 4 => v = .agg #[.float .f64 (px L j), .float .f64 (py L j)] | 5 => v = .bool false | 6 => v = .bool false | _ => False) ?A_w9ff (by kernel_rfl) (by kernel_rfl) ?hA_w9ff ?hmo_w9ff ?hq_w9ff ?ht_w9ff
        case hA_w9ff =>
          intro s
          simp only [putL, dstO, Act.put, List.getElem?_toArray, List.getElem?_cons_zero, List.getElem?_cons_succ, Option.bind_some, List.setIfInBounds_toArray, List.set_cons_zero, List.set_cons_succ, if_true]
          all_goals exact rfl
        case hmo_w9ff =>
          intro i W W' v hi hb h
          rcases (show i = 0 ∨ i = 1 ∨ i = 2 ∨ i = 3 ∨ i = 4 ∨ i = 5 ∨ i = 6 by omega) with rfl | rfl | rfl | rfl | rfl | rfl | rfl
          all_goals first | exact h
        case hq_w9ff =>
          intro i o hi ho s W hs hb K hK
          have ua0 := keep hb ya0; have ua1 := keep hb ya1; have ub0 := keep hb yb0; have ub1 := keep hb yb1; have up0 := keep hb yp0; have up1 := keep hb yp1; have up2 := keep hb yp2
          rcases (show i = 0 ∨ i = 1 ∨ i = 2 ∨ i = 3 ∨ i = 4 ∨ i = 5 ∨ i = 6 by omega) with rfl | rfl | rfl | rfl | rfl | rfl | rfl
          · cases ho
            simp only [Act.put, List.setIfInBounds_toArray, List.set_cons_zero, List.set_cons_succ] at hK
            clear hs
            go_simp
            all_goals (try go_wp2_with (first | (go_at_call 48; (first | with_reducible refine (rwithin_d _ hp ha hk).mono ?_ | with_reducible refine (rwithin_d _ hp hb_ hk).mono ?_); rintro e w' ⟨rfl, hb1⟩; (first | rw [h1] | rw [h2]))))
            all_goals first | exact hK.out _ _ rfl hb1 | exact hK.out _ _ rfl (bl_refl _) | exact hK.out _ _ rfl (by assumption) | exact hK.out _ _ (by assumption) (by assumption)
          · cases ho
            simp only [Act.put, List.setIfInBounds_toArray, List.set_cons_zero, List.set_cons_succ] at hK
            clear hs
            go_simp
            all_goals (try go_wp2_with (first | (go_at_call 48; (first | with_reducible refine (rwithin_d _ hp ha hk).mono ?_ | with_reducible refine (rwithin_d _ hp hb_ hk).mono ?_); rintro e w' ⟨rfl, hb1⟩; (first | rw [h1] | rw [h2]))))
            all_goals first | exact hK.out _ _ rfl hb1 | exact hK.out _ _ rfl (bl_refl _) | exact hK.out _ _ rfl (by assumption) | exact hK.out _ _ (by assumption) (by assumption)
          · cases ho
            have e0 : s 0 = _ := hs 0 (by decide) (by kernel_rfl)
            have e1 : s 1 = _ := hs 1 (by decide) (by kernel_rfl)
            simp only [e0, e1] at hK ⊢
            simp only [Act.put, List.setIfInBounds_toArray, List.set_cons_zero, List.set_cons_succ] at hK
            clear hs
            go_simp
            all_goals (try go_wp2_with (first | (go_at_call 48; (first | with_reducible refine (rwithin_d _ hp ha hk).mono ?_ | with_reducible refine (rwithin_d _ hp hb_ hk).mono ?_); rintro e w' ⟨rfl, hb1⟩; (first | rw [h1] | rw [h2]))))
            all_goals first | exact hK.out _ _ rfl hb1 | exact hK.out _ _ rfl (bl_refl _) | exact hK.out _ _ rfl (by assumption) | exact hK.out _ _ (by assumption) (by assumption)
          · cases ho
            simp only [Act.put, List.setIfInBounds_toArray, List.set_cons_zero, List.set_cons_succ] at hK
            clear hs
            go_simp
            all_goals (try go_wp2_with (first | (go_at_call 48; (first | with_reducible refine (rwithin_d _ hp ha hk).mono ?_ | with_reducible refine (rwithin_d _ hp hb_ hk).mono ?_); rintro e w' ⟨rfl, hb1⟩; (first | rw [h1] | rw [h2]))))
            all_goals first | exact hK.out _ _ rfl hb1 | exact hK.out _ _ rfl (bl_refl _) | exact hK.out _ _ rfl (by assumption) | exact hK.out _ _ (by assumption) (by assumption)
          · cases ho
            simp only [Act.put, List.setIfInBounds_toArray, List.set_cons_zero, List.set_cons_succ] at hK
            clear hs
            go_simp
            all_goals (try go_wp2_with (first | (go_at_call 48; (first | with_reducible refine (rwithin_d _ hp ha hk).mono ?_ | with_reducible refine (rwithin_d _ hp hb_ hk).mono ?_); rintro e w' ⟨rfl, hb1⟩; (first | rw [h1] | rw [h2]))))
            all_goals first | exact hK.out _ _ rfl hb1 | exact hK.out _ _ rfl (bl_refl _) | exact hK.out _ _ rfl (by assumption) | exact hK.out _ _ (by assumption) (by assumption)
          · cases ho
            have e3 : s 3 = _ := hs 3 (by decide) (by kernel_rfl)
            have e4 : s 4 = _ := hs 4 (by decide) (by kernel_rfl)
            simp only [e3, e4] at hK ⊢
            simp only [Act.put, List.setIfInBounds_toArray, List.set_cons_zero, List.set_cons_succ] at hK
            clear hs
            go_simp
            all_goals (try go_wp2_with (first | (go_at_call 48; (first | with_reducible refine (rwithin_d _ hp ha hk).mono ?_ | with_reducible refine (rwithin_d _ hp hb_ hk).mono ?_); rintro e w' ⟨rfl, hb1⟩; (first | rw [h1] | rw [h2]))))
            all_goals first | exact hK.out _ _ rfl hb1 | exact hK.out _ _ rfl (bl_refl _) | exact hK.out _ _ rfl (by assumption) | exact hK.out _ _ (by assumption) (by assumption)
          · cases ho
            have e2 : s 2 = _ := hs 2 (by decide) (by kernel_rfl)
            have e5 : s 5 = _ := hs 5 (by decide) (by kernel_rfl)
            simp only [e2, e5] at hK ⊢
            simp only [Act.put, List.setIfInBounds_toArray, List.set_cons_zero, List.set_cons_succ] at hK
            clear hs
            go_simp
            all_goals (try go_wp2_with (first | (go_at_call 48; (first | with_reducible refine (rwithin_d _ hp ha hk).mono ?_ | with_reducible refine (rwithin_d _ hp hb_ hk).mono ?_); rintro e w' ⟨rfl, hb1⟩; (first | rw [h1] | rw [h2]))))
            all_goals first | exact hK.out _ _ rfl hb1 | exact hK.out _ _ rfl (bl_refl _) | exact hK.out _ _ rfl (by assumption) | exact hK.out _ _ (by assumption) (by assumption)
        case ht_w9ff =>
          intro s W9 hs hb9
          have e0 : s 0 = _ := hs 0 (by decide)
          have e1 : s 1 = _ := hs 1 (by decide)
          have e2 : s 2 = _ := hs 2 (by decide)
          have e3 : s 3 = _ := hs 3 (by decide)
          have e4 : s 4 = _ := hs 4 (by decide)
          have e5 : s 5 = _ := hs 5 (by decide)
          have e6 : s 6 = _ := hs 6 (by decide)
          simp only [e0, e1, e2, e3, e4, e5, e6]
          clear hs e0 e1 e2 e3 e4 e5 e6
          go_wp2
          exact ⟨⟨kx + 1, by omega, by go_num, bl_trans BX hb9, by rw [rowN9, hsd]; rw [List.append_nil]; exact hOx.bel hb9⟩, by simp [intOf]; omega⟩
      · have hsd : sideL (nx, ny, fd) ((px L kx), (py L kx)) ((px L j), (py L j)) = [((cuX (nx, ny, fd) (px L kx, py L kx) (px L j, py L j)), (cuY (nx, ny, fd) (px L kx, py L kx) (px L j, py L j)))] := by
          unfold sideL
          rw [h1, h2]
          rfl
        go_wp2_with (first | (go_at_call 48; (first | with_reducible refine (rwithin_d _ hp ha hk).mono ?_ | with_reducible refine (rwithin_d _ hp hb_ hk).mono ?_); rintro e w_a ⟨rfl, hba⟩; (first | rw [h1] | rw [h2]); have BX := bl_trans hB2 hba; have ya0 := keep hba xa0; have ya1 := keep hba xa1; have yb0 := keep hba xb0; have yb1 := keep hba xb1; have yp0 := keep hba xp0; have yp1 := keep hba xp1; have yp2 := keep hba xp2; have hOx := (hO.bel BW2).bel hba))
        refine wp_region_mono 7 rfl (fun i W v => match i with | 0 => v = .agg #[.float .f64 nx, .float .f64 ny, .float .f64 fd] | 1 => v = .agg #[.float .f64 (px L kx), .float .f64 (py L kx)] | 2 => v = .bool false | 3 => v = .agg #[.float .f64 nx, .float .f64 ny, .float .f64 fd] | 4 => v = .agg #[.float .f64 (px L j), .float .f64 (py L j)] | 5 => v = .bool true | 6 => v = .bool true | _ => False) ?A_w9ft (by kernel_rfl) (by kernel_rfl) ?hA_w9ft ?hmo_w9ft ?hq_w9ft ?ht_w9ft
        case hA_w9ft =>
          intro s
          simp only [putL, dstO, Act.put, List.getElem?_toArray, List.getElem?_cons_zero, List.getElem?_cons_succ, Option.bind_some, List.setIfInBounds_toArray, List.set_cons_zero, List.set_cons_succ, if_true]
          all_goals exact rfl
        case hmo_w9ft =>
          intro i W W' v hi hb h
          rcases (show i = 0 ∨ i = 1 ∨ i = 2 ∨ i = 3 ∨ i = 4 ∨ i = 5 ∨ i = 6 by omega) with rfl | rfl | rfl | rfl | rfl | rfl | rfl
          all_goals first | exact h
        case hq_w9ft =>
          intro i o hi ho s W hs hb K hK
          have ua0 := keep hb ya0; have ua1 := keep hb ya1; have ub0 := keep hb yb0; have ub1 := keep hb yb1; have up0 := keep hb yp0; have up1 := keep hb yp1; have up2 := keep hb yp2
          rcases (show i = 0 ∨ i = 1 ∨ i = 2 ∨ i = 3 ∨ i = 4 ∨ i = 5 ∨ i = 6 by omega) with rfl | rfl | rfl | rfl | rfl | rfl | rfl
          · cases ho
            simp only [Act.put, List.setIfInBounds_toArray, List.set_cons_zero, List.set_cons_succ] at hK
            clear hs
            go_simp
            all_goals (try go_wp2_with (first | (go_at_call 48; (first | with_reducible refine (rwithin_d _ hp ha hk).mono ?_ | with_reducible refine (rwithin_d _ hp hb_ hk).mono ?_); rintro e w' ⟨rfl, hb1⟩; (first | rw [h1] | rw [h2]))))
            all_goals first | exact hK.out _ _ rfl hb1 | exact hK.out _ _ rfl (bl_refl _) | exact hK.out _ _ rfl (by assumption) | exact hK.out _ _ (by assumption) (by assumption)
          · cases ho
            simp only [Act.put, List.setIfInBounds_toArray, List.set_cons_zero, List.set_cons_succ] at hK
            clear hs
            go_simp
            all_goals (try go_wp2_with (first | (go_at_call 48; (first | with_reducible refine (rwithin_d _ hp ha hk).mono ?_ | with_reducible refine (rwithin_d _ hp hb_ hk).mono ?_); rintro e w' ⟨rfl, hb1⟩; (first | rw [h1] | rw [h2]))))
            all_goals first | exact hK.out _ _ rfl hb1 | exact hK.out _ _ rfl (bl_refl _) | exact hK.out _ _ rfl (by assumption) | exact hK.out _ _ (by assumption) (by assumption)
          · cases ho
            have e0 : s 0 = _ := hs 0 (by decide) (by kernel_rfl)
            have e1 : s 1 = _ := hs 1 (by decide) (by kernel_rfl)
            simp only [e0, e1] at hK ⊢
            simp only [Act.put, List.setIfInBounds_toArray, List.set_cons_zero, List.set_cons_succ] at hK
            clear hs
            go_simp
            all_goals (try go_wp2_with (first | (go_at_call 48; (first | with_reducible refine (rwithin_d _ hp ha hk).mono ?_ | with_reducible refine (rwithin_d _ hp hb_ hk).mono ?_); rintro e w' ⟨rfl, hb1⟩; (first | rw [h1] | rw [h2]))))
            all_goals first | exact hK.out _ _ rfl hb1 | exact hK.out _ _ rfl (bl_refl _) | exact hK.out _ _ rfl (by assumption) | exact hK.out _ _ (by assumption) (by assumption)
          · cases ho
            simp only [Act.put, List.setIfInBounds_toArray, List.set_cons_zero, List.set_cons_succ] at hK
            clear hs
            go_simp
            all_goals (try go_wp2_with (first | (go_at_call 48; (first | with_reducible refine (rwithin_d _ hp ha hk).mono ?_ | with_reducible refine (rwithin_d _ hp hb_ hk).mono ?_); rintro e w' ⟨rfl, hb1⟩; (first | rw [h1] | rw [h2]))))
            all_goals first | exact hK.out _ _ rfl hb1 | exact hK.out _ _ rfl (bl_refl _) | exact hK.out _ _ rfl (by assumption) | exact hK.out _ _ (by assumption) (by assumption)
          · cases ho
            simp only [Act.put, List.setIfInBounds_toArray, List.set_cons_zero, List.set_cons_succ] at hK
            clear hs
            go_simp
            all_goals (try go_wp2_with (first | (go_at_call 48; (first | with_reducible refine (rwithin_d _ hp ha hk).mono ?_ | with_reducible refine (rwithin_d _ hp hb_ hk).mono ?_); rintro e w' ⟨rfl, hb1⟩; (first | rw [h1] | rw [h2]))))
            all_goals first | exact hK.out _ _ rfl hb1 | exact hK.out _ _ rfl (bl_refl _) | exact hK.out _ _ rfl (by assumption) | exact hK.out _ _ (by assumption) (by assumption)
          · cases ho
            have e3 : s 3 = _ := hs 3 (by decide) (by kernel_rfl)
            have e4 : s 4 = _ := hs 4 (by decide) (by kernel_rfl)
            simp only [e3, e4] at hK ⊢
            simp only [Act.put, List.setIfInBounds_toArray, List.set_cons_zero, List.set_cons_succ] at hK
            clear hs
            go_simp
            all_goals (try go_wp2_with (first | (go_at_call 48; (first | with_reducible refine (rwithin_d _ hp ha hk).mono ?_ | with_reducible refine (rwithin_d _ hp hb_ hk).mono ?_); rintro e w' ⟨rfl, hb1⟩; (first | rw [h1] | rw [h2]))))
            all_goals first | exact hK.out _ _ rfl hb1 | exact hK.out _ _ rfl (bl_refl _) | exact hK.out _ _ rfl (by assumption) | exact hK.out _ _ (by assumption) (by assumption)
          · cases ho
            have e2 : s 2 = _ := hs 2 (by decide) (by kernel_rfl)
            have e5 : s 5 = _ := hs 5 (by decide) (by kernel_rfl)
            simp only [e2, e5] at hK ⊢
            simp only [Act.put, List.setIfInBounds_toArray, List.set_cons_zero, List.set_cons_succ] at hK
            clear hs
            go_simp
            all_goals (try go_wp2_with (first | (go_at_call 48; (first | with_reducible refine (rwithin_d _ hp ha hk).mono ?_ | with_reducible refine (rwithin_d _ hp hb_ hk).mono ?_); rintro e w' ⟨rfl, hb1⟩; (first | rw [h1] | rw [h2]))))
            all_goals first | exact hK.out _ _ rfl hb1 | exact hK.out _ _ rfl (bl_refl _) | exact hK.out _ _ rfl (by assumption) | exact hK.out _ _ (by assumption) (by assumption)
        case ht_w9ft =>
          intro s W9 hs hb9
          have e0 : s 0 = _ := hs 0 (by decide)
          have e1 : s 1 = _ := hs 1 (by decide)
          have e2 : s 2 = _ := hs 2 (by decide)
          have e3 : s 3 = _ := hs 3 (by decide)
          have e4 : s 4 = _ := hs 4 (by decide)
          have e5 : s 5 = _ := hs 5 (by decide)
          have e6 : s 6 = _ := hs 6 (by decide)
          simp only [e0, e1, e2, e3, e4, e5, e6]
          clear hs e0 e1 e2 e3 e4 e5 e6
          have hOc := hOx.bel hb9
          have uA0 := keep hb9 ya0
          have uA1 := keep hb9 ya1
          have uB0 := keep hb9 yb0
          have uB1 := keep hb9 yb1
          have uP0 := keep hb9 yp0
          have uP1 := keep hb9 yp1
          have uP2 := keep hb9 yp2
          have B9 := bl_trans BX hb9
          have z9 := B9.size
          rw [World.size_alloc] at z9
          go_wp2_with (first | (go_at_call 49; refine (rcut_d _ hp ha hb_ hk (by rw [h1, h2]; decide)).mono ?_; rintro e w_c ⟨rfl, hbc⟩; have hOd := hOc.bel hbc; have zc := hbc.size) | (at_builtin; refine wpList_app9 (WR := w_c) (M := [((cuX (nx, ny, fd) (px L kx, py L kx) (px L j, py L j)), (cuY (nx, ny, fd) (px L kx, py L kx) (px L j, py L j)))]) rfl _ _ rfl rfl _ 0 1 rfl hOd (bl_alloc (bl_refl _) _ _) (one_at rfl rfl) (Nat.succ_pos _) (by simp only [World.size_alloc]; omega) (by have := rowN_half2 (nx, ny, fd) L kx (by omega); simp only [List.length_append, List.length_cons, List.length_nil]; omega) ?_; intro v5 w5 hO5 hB5 hF5))
          refine ⟨⟨kx + 1, by omega, by go_num, hB5 _ (bl_alloc (bl_trans B9 hbc) _ _) (by simp), ?_⟩, by simp [intOf]; omega⟩
          rw [rowN9, hsd]
          simpa using hO5
      · have hsd : sideL (nx, ny, fd) ((px L kx), (py L kx)) ((px L j), (py L j)) = [((px L kx), (py L kx)), ((cuX (nx, ny, fd) (px L kx, py L kx) (px L j, py L j)), (cuY (nx, ny, fd) (px L kx, py L kx) (px L j, py L j)))] := by
          unfold sideL
          rw [h1, h2]
          rfl
        go_wp2_with (first | (go_at_call 48; (first | with_reducible refine (rwithin_d _ hp ha hk).mono ?_ | with_reducible refine (rwithin_d _ hp hb_ hk).mono ?_); rintro e w_a ⟨rfl, hba⟩; (first | rw [h1] | rw [h2]); have Ba := bl_trans hB2 hba; have ya0 := keep hba xa0; have ya1 := keep hba xa1; have yb0 := keep hba xb0; have yb1 := keep hba xb1; have za := Ba.size; rw [World.size_alloc] at za) | (at_builtin; refine wpList_app9 (WR := wr) (M := [((px L kx), (py L kx))]) rfl _ _ rfl rfl _ 0 1 rfl hO (bl_alloc (bl_trans BW2 hba) _ _) (one_at rfl rfl) (Nat.succ_pos _) (by simp only [World.size_alloc]; omega) (by have := rowN_half2 (nx, ny, fd) L kx (by omega); simp only [List.length_append, List.length_cons, List.length_nil]; omega) ?_; intro v1 w1 hO1 hB1 hF1; have BX := hB1 _ (bl_alloc Ba _ _) (by simp); have hOx := hO1; replace ya0 := hF1 _ _ _ (by simp) (keep (bl_alloc (bl_refl _) _ _) ya0); replace ya1 := hF1 _ _ _ (by simp) (keep (bl_alloc (bl_refl _) _ _) ya1); replace yb0 := hF1 _ _ _ (by simp) (keep (bl_alloc (bl_refl _) _ _) yb0); replace yb1 := hF1 _ _ _ (by simp) (keep (bl_alloc (bl_refl _) _ _) yb1); have yp0 := keep BX z0_0; have yp1 := keep BX z0_1; have yp2 := keep BX z0_2))
        refine wp_region_mono 7 rfl (fun i W v => match i with | 0 => v = .agg #[.float .f64 nx, .float .f64 ny, .float .f64 fd] | 1 => v = .agg #[.float .f64 (px L kx), .float .f64 (py L kx)] | 2 => v = .bool true | 3 => v = .agg #[.float .f64 nx, .float .f64 ny, .float .f64 fd] | 4 => v = .agg #[.float .f64 (px L j), .float .f64 (py L j)] | 5 => v = .bool false | 6 => v = .bool true | _ => False) ?A_w9tf (by kernel_rfl) (by kernel_rfl) ?hA_w9tf ?hmo_w9tf ?hq_w9tf ?ht_w9tf
        case hA_w9tf =>
          intro s
          simp only [putL, dstO, Act.put, List.getElem?_toArray, List.getElem?_cons_zero, List.getElem?_cons_succ, Option.bind_some, List.setIfInBounds_toArray, List.set_cons_zero, List.set_cons_succ, if_true]
          all_goals exact rfl
        case hmo_w9tf =>
          intro i W W' v hi hb h
          rcases (show i = 0 ∨ i = 1 ∨ i = 2 ∨ i = 3 ∨ i = 4 ∨ i = 5 ∨ i = 6 by omega) with rfl | rfl | rfl | rfl | rfl | rfl | rfl
          all_goals first | exact h
        case hq_w9tf =>
          intro i o hi ho s W hs hb K hK
          have ua0 := keep hb ya0; have ua1 := keep hb ya1; have ub0 := keep hb yb0; have ub1 := keep hb yb1; have up0 := keep hb yp0; have up1 := keep hb yp1; have up2 := keep hb yp2
          rcases (show i = 0 ∨ i = 1 ∨ i = 2 ∨ i = 3 ∨ i = 4 ∨ i = 5 ∨ i = 6 by omega) with rfl | rfl | rfl | rfl | rfl | rfl | rfl
          · cases ho
            simp only [Act.put, List.setIfInBounds_toArray, List.set_cons_zero, List.set_cons_succ] at hK
            clear hs
            go_simp
            all_goals (try go_wp2_with (first | (go_at_call 48; (first | with_reducible refine (rwithin_d _ hp ha hk).mono ?_ | with_reducible refine (rwithin_d _ hp hb_ hk).mono ?_); rintro e w' ⟨rfl, hb1⟩; (first | rw [h1] | rw [h2]))))
            all_goals first | exact hK.out _ _ rfl hb1 | exact hK.out _ _ rfl (bl_refl _) | exact hK.out _ _ rfl (by assumption) | exact hK.out _ _ (by assumption) (by assumption)
          · cases ho
            simp only [Act.put, List.setIfInBounds_toArray, List.set_cons_zero, List.set_cons_succ] at hK
            clear hs
            go_simp
            all_goals (try go_wp2_with (first | (go_at_call 48; (first | with_reducible refine (rwithin_d _ hp ha hk).mono ?_ | with_reducible refine (rwithin_d _ hp hb_ hk).mono ?_); rintro e w' ⟨rfl, hb1⟩; (first | rw [h1] | rw [h2]))))
            all_goals first | exact hK.out _ _ rfl hb1 | exact hK.out _ _ rfl (bl_refl _) | exact hK.out _ _ rfl (by assumption) | exact hK.out _ _ (by assumption) (by assumption)
          · cases ho
            have e0 : s 0 = _ := hs 0 (by decide) (by kernel_rfl)
            have e1 : s 1 = _ := hs 1 (by decide) (by kernel_rfl)
            simp only [e0, e1] at hK ⊢
            simp only [Act.put, List.setIfInBounds_toArray, List.set_cons_zero, List.set_cons_succ] at hK
            clear hs
            go_simp
            all_goals (try go_wp2_with (first | (go_at_call 48; (first | with_reducible refine (rwithin_d _ hp ha hk).mono ?_ | with_reducible refine (rwithin_d _ hp hb_ hk).mono ?_); rintro e w' ⟨rfl, hb1⟩; (first | rw [h1] | rw [h2]))))
            all_goals first | exact hK.out _ _ rfl hb1 | exact hK.out _ _ rfl (bl_refl _) | exact hK.out _ _ rfl (by assumption) | exact hK.out _ _ (by assumption) (by assumption)
          · cases ho
            simp only [Act.put, List.setIfInBounds_toArray, List.set_cons_zero, List.set_cons_succ] at hK
            clear hs
            go_simp
            all_goals (try go_wp2_with (first | (go_at_call 48; (first | with_reducible refine (rwithin_d _ hp ha hk).mono ?_ | with_reducible refine (rwithin_d _ hp hb_ hk).mono ?_); rintro e w' ⟨rfl, hb1⟩; (first | rw [h1] | rw [h2]))))
            all_goals first | exact hK.out _ _ rfl hb1 | exact hK.out _ _ rfl (bl_refl _) | exact hK.out _ _ rfl (by assumption) | exact hK.out _ _ (by assumption) (by assumption)
          · cases ho
            simp only [Act.put, List.setIfInBounds_toArray, List.set_cons_zero, List.set_cons_succ] at hK
            clear hs
            go_simp
            all_goals (try go_wp2_with (first | (go_at_call 48; (first | with_reducible refine (rwithin_d _ hp ha hk).mono ?_ | with_reducible refine (rwithin_d _ hp hb_ hk).mono ?_); rintro e w' ⟨rfl, hb1⟩; (first | rw [h1] | rw [h2]))))
            all_goals first | exact hK.out _ _ rfl hb1 | exact hK.out _ _ rfl (bl_refl _) | exact hK.out _ _ rfl (by assumption) | exact hK.out _ _ (by assumption) (by assumption)
          · cases ho
            have e3 : s 3 = _ := hs 3 (by decide) (by kernel_rfl)
            have e4 : s 4 = _ := hs 4 (by decide) (by kernel_rfl)
            simp only [e3, e4] at hK ⊢
            simp only [Act.put, List.setIfInBounds_toArray, List.set_cons_zero, List.set_cons_succ] at hK
            clear hs
            go_simp
            all_goals (try go_wp2_with (first | (go_at_call 48; (first | with_reducible refine (rwithin_d _ hp ha hk).mono ?_ | with_reducible refine (rwithin_d _ hp hb_ hk).mono ?_); rintro e w' ⟨rfl, hb1⟩; (first | rw [h1] | rw [h2]))))
            all_goals first | exact hK.out _ _ rfl hb1 | exact hK.out _ _ rfl (bl_refl _) | exact hK.out _ _ rfl (by assumption) | exact hK.out _ _ (by assumption) (by assumption)
          · cases ho
            have e2 : s 2 = _ := hs 2 (by decide) (by kernel_rfl)
            have e5 : s 5 = _ := hs 5 (by decide) (by kernel_rfl)
            simp only [e2, e5] at hK ⊢
            simp only [Act.put, List.setIfInBounds_toArray, List.set_cons_zero, List.set_cons_succ] at hK
            clear hs
            go_simp
            all_goals (try go_wp2_with (first | (go_at_call 48; (first | with_reducible refine (rwithin_d _ hp ha hk).mono ?_ | with_reducible refine (rwithin_d _ hp hb_ hk).mono ?_); rintro e w' ⟨rfl, hb1⟩; (first | rw [h1] | rw [h2]))))
            all_goals first | exact hK.out _ _ rfl hb1 | exact hK.out _ _ rfl (bl_refl _) | exact hK.out _ _ rfl (by assumption) | exact hK.out _ _ (by assumption) (by assumption)
        case ht_w9tf =>
          intro s W9 hs hb9
          have e0 : s 0 = _ := hs 0 (by decide)
          have e1 : s 1 = _ := hs 1 (by decide)
          have e2 : s 2 = _ := hs 2 (by decide)
          have e3 : s 3 = _ := hs 3 (by decide)
          have e4 : s 4 = _ := hs 4 (by decide)
          have e5 : s 5 = _ := hs 5 (by decide)
          have e6 : s 6 = _ := hs 6 (by decide)
          simp only [e0, e1, e2, e3, e4, e5, e6]
          clear hs e0 e1 e2 e3 e4 e5 e6
          have hOc := hOx.bel hb9
          have uA0 := keep hb9 ya0
          have uA1 := keep hb9 ya1
          have uB0 := keep hb9 yb0
          have uB1 := keep hb9 yb1
          have uP0 := keep hb9 yp0
          have uP1 := keep hb9 yp1
          have uP2 := keep hb9 yp2
          have B9 := bl_trans BX hb9
          have z9 := B9.size
          rw [World.size_alloc] at z9
          go_wp2_with (first | (go_at_call 49; refine (rcut_d _ hp ha hb_ hk (by rw [h1, h2]; decide)).mono ?_; rintro e w_c ⟨rfl, hbc⟩; have hOd := hOc.bel hbc; have zc := hbc.size) | (at_builtin; refine wpList_app9 (WR := w_c) (M := [((cuX (nx, ny, fd) (px L kx, py L kx) (px L j, py L j)), (cuY (nx, ny, fd) (px L kx, py L kx) (px L j, py L j)))]) rfl _ _ rfl rfl _ 0 1 rfl hOd (bl_alloc (bl_refl _) _ _) (one_at rfl rfl) (Nat.succ_pos _) (by simp only [World.size_alloc]; omega) (by have := rowN_half2 (nx, ny, fd) L kx (by omega); simp only [List.length_append, List.length_cons, List.length_nil]; omega) ?_; intro v5 w5 hO5 hB5 hF5))
          refine ⟨⟨kx + 1, by omega, by go_num, hB5 _ (bl_alloc (bl_trans B9 hbc) _ _) (by simp), ?_⟩, by simp [intOf]; omega⟩
          rw [rowN9, hsd]
          simpa using hO5
      · have hsd : sideL (nx, ny, fd) ((px L kx), (py L kx)) ((px L j), (py L j)) = [((px L kx), (py L kx))] := by
          unfold sideL
          rw [h1, h2]
          rfl
        go_wp2_with (first | (go_at_call 48; (first | with_reducible refine (rwithin_d _ hp ha hk).mono ?_ | with_reducible refine (rwithin_d _ hp hb_ hk).mono ?_); rintro e w_a ⟨rfl, hba⟩; (first | rw [h1] | rw [h2]); have Ba := bl_trans hB2 hba; have ya0 := keep hba xa0; have ya1 := keep hba xa1; have yb0 := keep hba xb0; have yb1 := keep hba xb1; have za := Ba.size; rw [World.size_alloc] at za) | (at_builtin; refine wpList_app9 (WR := wr) (M := [((px L kx), (py L kx))]) rfl _ _ rfl rfl _ 0 1 rfl hO (bl_alloc (bl_trans BW2 hba) _ _) (one_at rfl rfl) (Nat.succ_pos _) (by simp only [World.size_alloc]; omega) (by have := rowN_half2 (nx, ny, fd) L kx (by omega); simp only [List.length_append, List.length_cons, List.length_nil]; omega) ?_; intro v1 w1 hO1 hB1 hF1; have BX := hB1 _ (bl_alloc Ba _ _) (by simp); have hOx := hO1; replace ya0 := hF1 _ _ _ (by simp) (keep (bl_alloc (bl_refl _) _ _) ya0); replace ya1 := hF1 _ _ _ (by simp) (keep (bl_alloc (bl_refl _) _ _) ya1); replace yb0 := hF1 _ _ _ (by simp) (keep (bl_alloc (bl_refl _) _ _) yb0); replace yb1 := hF1 _ _ _ (by simp) (keep (bl_alloc (bl_refl _) _ _) yb1); have yp0 := keep BX z0_0; have yp1 := keep BX z0_1; have yp2 := keep BX z0_2))
        refine wp_region_mono 7 rfl (fun i W v => match i with | 0 => v = .agg #[.float .f64 nx, .float .f64 ny, .float .f64 fd] | 1 => v = .agg #[.float .f64 (px L kx), .float .f64 (py L kx)] | 2 => v = .bool true | 3 => v = .agg #[.float .f64 nx, .float .f64 ny, .float .f64 fd] | 4 => v = .agg #[.float .f64 (px L j), .float .f64 (py L j)] | 5 => v = .bool true | 6 => v = .bool false | _ => False) ?A_w9tt (by kernel_rfl) (by kernel_rfl) ?hA_w9tt ?hmo_w9tt ?hq_w9tt ?ht_w9tt
        case hA_w9tt =>
          intro s
          simp only [putL, dstO, Act.put, List.getElem?_toArray, List.getElem?_cons_zero, List.getElem?_cons_succ, Option.bind_some, List.setIfInBounds_toArray, List.set_cons_zero, List.set_cons_succ, if_true]
          all_goals exact rfl
        case hmo_w9tt =>
          intro i W W' v hi hb h
          rcases (show i = 0 ∨ i = 1 ∨ i = 2 ∨ i = 3 ∨ i = 4 ∨ i = 5 ∨ i = 6 by omega) with rfl | rfl | rfl | rfl | rfl | rfl | rfl
          all_goals first | exact h
        case hq_w9tt =>
          intro i o hi ho s W hs hb K hK
          have ua0 := keep hb ya0; have ua1 := keep hb ya1; have ub0 := keep hb yb0; have ub1 := keep hb yb1; have up0 := keep hb yp0; have up1 := keep hb yp1; have up2 := keep hb yp2
          rcases (show i = 0 ∨ i = 1 ∨ i = 2 ∨ i = 3 ∨ i = 4 ∨ i = 5 ∨ i = 6 by omega) with rfl | rfl | rfl | rfl | rfl | rfl | rfl
          · cases ho
            simp only [Act.put, List.setIfInBounds_toArray, List.set_cons_zero, List.set_cons_succ] at hK
            clear hs
            go_simp
            all_goals (try go_wp2_with (first | (go_at_call 48; (first | with_reducible refine (rwithin_d _ hp ha hk).mono ?_ | with_reducible refine (rwithin_d _ hp hb_ hk).mono ?_); rintro e w' ⟨rfl, hb1⟩; (first | rw [h1] | rw [h2]))))
            all_goals first | exact hK.out _ _ rfl hb1 | exact hK.out _ _ rfl (bl_refl _) | exact hK.out _ _ rfl (by assumption) | exact hK.out _ _ (by assumption) (by assumption)
          · cases ho
            simp only [Act.put, List.setIfInBounds_toArray, List.set_cons_zero, List.set_cons_succ] at hK
            clear hs
            go_simp
            all_goals (try go_wp2_with (first | (go_at_call 48; (first | with_reducible refine (rwithin_d _ hp ha hk).mono ?_ | with_reducible refine (rwithin_d _ hp hb_ hk).mono ?_); rintro e w' ⟨rfl, hb1⟩; (first | rw [h1] | rw [h2]))))
            all_goals first | exact hK.out _ _ rfl hb1 | exact hK.out _ _ rfl (bl_refl _) | exact hK.out _ _ rfl (by assumption) | exact hK.out _ _ (by assumption) (by assumption)
          · cases ho
            have e0 : s 0 = _ := hs 0 (by decide) (by kernel_rfl)
            have e1 : s 1 = _ := hs 1 (by decide) (by kernel_rfl)
            simp only [e0, e1] at hK ⊢
            simp only [Act.put, List.setIfInBounds_toArray, List.set_cons_zero, List.set_cons_succ] at hK
            clear hs
            go_simp
            all_goals (try go_wp2_with (first | (go_at_call 48; (first | with_reducible refine (rwithin_d _ hp ha hk).mono ?_ | with_reducible refine (rwithin_d _ hp hb_ hk).mono ?_); rintro e w' ⟨rfl, hb1⟩; (first | rw [h1] | rw [h2]))))
            all_goals first | exact hK.out _ _ rfl hb1 | exact hK.out _ _ rfl (bl_refl _) | exact hK.out _ _ rfl (by assumption) | exact hK.out _ _ (by assumption) (by assumption)
          · cases ho
            simp only [Act.put, List.setIfInBounds_toArray, List.set_cons_zero, List.set_cons_succ] at hK
            clear hs
            go_simp
            all_goals (try go_wp2_with (first | (go_at_call 48; (first | with_reducible refine (rwithin_d _ hp ha hk).mono ?_ | with_reducible refine (rwithin_d _ hp hb_ hk).mono ?_); rintro e w' ⟨rfl, hb1⟩; (first | rw [h1] | rw [h2]))))
            all_goals first | exact hK.out _ _ rfl hb1 | exact hK.out _ _ rfl (bl_refl _) | exact hK.out _ _ rfl (by assumption) | exact hK.out _ _ (by assumption) (by assumption)
          · cases ho
            simp only [Act.put, List.setIfInBounds_toArray, List.set_cons_zero, List.set_cons_succ] at hK
            clear hs
            go_simp
            all_goals (try go_wp2_with (first | (go_at_call 48; (first | with_reducible refine (rwithin_d _ hp ha hk).mono ?_ | with_reducible refine (rwithin_d _ hp hb_ hk).mono ?_); rintro e w' ⟨rfl, hb1⟩; (first | rw [h1] | rw [h2]))))
            all_goals first | exact hK.out _ _ rfl hb1 | exact hK.out _ _ rfl (bl_refl _) | exact hK.out _ _ rfl (by assumption) | exact hK.out _ _ (by assumption) (by assumption)
          · cases ho
            have e3 : s 3 = _ := hs 3 (by decide) (by kernel_rfl)
            have e4 : s 4 = _ := hs 4 (by decide) (by kernel_rfl)
            simp only [e3, e4] at hK ⊢
            simp only [Act.put, List.setIfInBounds_toArray, List.set_cons_zero, List.set_cons_succ] at hK
            clear hs
            go_simp
            all_goals (try go_wp2_with (first | (go_at_call 48; (first | with_reducible refine (rwithin_d _ hp ha hk).mono ?_ | with_reducible refine (rwithin_d _ hp hb_ hk).mono ?_); rintro e w' ⟨rfl, hb1⟩; (first | rw [h1] | rw [h2]))))
            all_goals first | exact hK.out _ _ rfl hb1 | exact hK.out _ _ rfl (bl_refl _) | exact hK.out _ _ rfl (by assumption) | exact hK.out _ _ (by assumption) (by assumption)
          · cases ho
            have e2 : s 2 = _ := hs 2 (by decide) (by kernel_rfl)
            have e5 : s 5 = _ := hs 5 (by decide) (by kernel_rfl)
            simp only [e2, e5] at hK ⊢
            simp only [Act.put, List.setIfInBounds_toArray, List.set_cons_zero, List.set_cons_succ] at hK
            clear hs
            go_simp
            all_goals (try go_wp2_with (first | (go_at_call 48; (first | with_reducible refine (rwithin_d _ hp ha hk).mono ?_ | with_reducible refine (rwithin_d _ hp hb_ hk).mono ?_); rintro e w' ⟨rfl, hb1⟩; (first | rw [h1] | rw [h2]))))
            all_goals first | exact hK.out _ _ rfl hb1 | exact hK.out _ _ rfl (bl_refl _) | exact hK.out _ _ rfl (by assumption) | exact hK.out _ _ (by assumption) (by assumption)
        case ht_w9tt =>
          intro s W9 hs hb9
          have e0 : s 0 = _ := hs 0 (by decide)
          have e1 : s 1 = _ := hs 1 (by decide)
          have e2 : s 2 = _ := hs 2 (by decide)
          have e3 : s 3 = _ := hs 3 (by decide)
          have e4 : s 4 = _ := hs 4 (by decide)
          have e5 : s 5 = _ := hs 5 (by decide)
          have e6 : s 6 = _ := hs 6 (by decide)
          simp only [e0, e1, e2, e3, e4, e5, e6]
          clear hs e0 e1 e2 e3 e4 e5 e6
          go_wp2
          exact ⟨⟨kx + 1, by omega, by go_num, bl_trans BX hb9, by rw [rowN9, hsd]; exact hOx.bel hb9⟩, by simp [intOf]; omega⟩
    · have hkn : kx = n := by omega
      subst hkn
      have eLL : leftL (nx, ny, fd) L = if (lastL (dd (rowN (nx, ny, fd) L kx) (rowN (nx, ny, fd) L kx).length)).length < 3 then [] else lastL (dd (rowN (nx, ny, fd) L kx) (rowN (nx, ny, fd) L kx).length) := by unfold leftL outL; rw [hl]
      have hrl := rowN_half2 (nx, ny, fd) L kx (by omega)
      have BW := bl_trans B0 hB
      clear rowN9
      generalize rowN (nx, ny, fd) L kx = RR at *
      obtain ⟨a5, c5, rfl, hc5, h5⟩ := hO.rows
      obtain ⟨m, hm⟩ : ∃ m, RR.length = m := ⟨_, rfl⟩
      rw [hm] at hc5 h5 hrl eLL ⊢
      have ndd := dd_len RR m
      obtain ⟨W5, hW5⟩ : ∃ X, wr = X := ⟨_, rfl⟩
      rw [hW5] at hB hO h5 BW
      (try rw [hW5])
      go_wp2
      go_loopw [10, 9] (fun i' u wq => ∃ i : Nat, i ≤ m ∧ i' = .int .i64 i ∧ Bel W5 wq ∧ Own W5.heap.size wq u (dd RR i)) (fun i' _ _ => m - (intOf i').toNat)
      case atStart => exact ⟨0, by omega, by first | rfl | (go_num), bl_refl _, Own.nil _ _⟩
      case round =>
        obtain ⟨i, him, rfl, hBq, hOu⟩ := hrel
        by_cases hit : i < m
        · rcases h5 with h5 | ⟨g, o5, rfl, _, hS⟩
          · omega
          have i1 : (i : Int) < (m : Int) := by omega
          have wi2 : IntKind.wrap .i64 ((i : Int) + 1) = (i : Int) + 1 := by rw [IntKind.wrap_i64]; omega
          obtain ⟨x0, x1⟩ := (hS.bel hBq) i hit
          have lq := World.block_lt_of_cell? _ _ x0
          simp only at lq
          have ddl := dd_len RR i
          have zq := hBq.size
          haveI := belBy_some wr
          by_cases hi0 : i = 0
          · subst hi0
            rw [show o5 + 0 * 2 = o5 by omega] at x0 x1
            have y0 := belBy_cell x0
            have y1 := belBy_cell x1
            go_wp2
            refine wp_region_quiet_bel (by kernel_rfl) (by kernel_rfl) ?_
            repeat (go_big_quiet_step (fail))
            refine wpQuiet_nil ?_
            rintro _ ⟨nq, rfl⟩
            have hz0 := keep nq.h x0
            have hz1 := keep nq.h x1
            have zn := nq.h.size
            go_wp2_with (first | (at_builtin; refine wpList_app9 (WR := nq.world) (M := [(px RR 0, py RR 0)]) rfl _ _ rfl rfl _ 0 1 rfl (hOu.bel nq.h) (bl_alloc (bl_refl _) _ _) (one_at rfl rfl) (Nat.succ_pos _) (by simp only [World.size_alloc]; omega) (by simp only [List.length_cons, List.length_nil]; omega) ?_; intro v1 w1 hO1 hB1 hF1))
            go_roundw
            case rel => exact ⟨1, by omega, by go_num, hB1 _ (bl_alloc (bl_trans hBq nq.h) _ _) (Nat.le_refl _), by rw [dd_one]; exact hO1⟩
            case measure => simp [intOf]; omega
          · have g0 : (0 : Int) < (i : Int) := by omega
            have g1 : 0 < i := by omega
            obtain ⟨q, hq⟩ : ∃ q, q + 1 = i := ⟨i - 1, by omega⟩
            have j3 : (i : Int) - 1 = (q : Int) := by omega
            have wj : IntKind.wrap .i64 (q : Int) = (q : Int) := by rw [IntKind.wrap_i64]; omega
            have q1 : (q : Int) < (m : Int) := by omega
            have q2 : q < m := by omega
            obtain ⟨x2, x3⟩ := (hS.bel hBq) q q2
            have y0 := belBy_cell x0
            have y1 := belBy_cell x1
            have y2 := belBy_cell x2
            have y3 := belBy_cell x3
            cases he : (eqK .f64 (px RR i) (px RR q) && eqK .f64 (py RR i) (py RR q))
            · have hc' : eqP (pt RR i) (pt RR (i - 1)) = false := by rw [show i - 1 = q by omega]; exact he
              go_wp2
              refine wp_region_quiet_bel (by kernel_rfl) (by kernel_rfl) ?_
              repeat (go_big_quiet_step (fail))
              refine wpQuiet_nil ?_
              rintro _ ⟨nq, rfl⟩
              (try simp only [he])
              have hz0 := keep nq.h x0
              have hz1 := keep nq.h x1
              have zn := nq.h.size
              go_wp2_with (first | (at_builtin; refine wpList_app9 (WR := nq.world) (M := [(px RR i, py RR i)]) rfl _ _ rfl rfl _ 0 1 rfl (hOu.bel nq.h) (bl_alloc (bl_refl _) _ _) (one_at rfl rfl) (Nat.succ_pos _) (by simp only [World.size_alloc]; omega) (by simp only [List.length_cons, List.length_nil]; omega) ?_; intro v1 w1 hO1 hB1 hF1))
              go_roundw
              case rel => exact ⟨i + 1, by omega, by go_num, hB1 _ (bl_alloc (bl_trans hBq nq.h) _ _) (Nat.le_refl _), by rw [dd_ne hc']; exact hO1⟩
              case measure => simp [intOf]; omega
            · have hc' : eqP (pt RR i) (pt RR (i - 1)) = true := by rw [show i - 1 = q by omega]; exact he
              go_wp2
              refine wp_region_quiet_bel (by kernel_rfl) (by kernel_rfl) ?_
              repeat (go_big_quiet_step (fail))
              refine wpQuiet_nil ?_
              rintro _ ⟨nq, rfl⟩
              (try simp only [he])
              go_wp2
              exact ⟨⟨i + 1, by omega, by go_num, bl_trans hBq nq.h, by rw [dd_eq (by omega) hc']; exact hOu.bel nq.h⟩, by simp [intOf]; omega⟩
        · have hin : i = m := by omega
          subst hin
          have i1 : ¬ (i : Int) < (i : Int) := by omega
          have BQ := bl_trans BW hBq
          generalize dd RR i = D at *
          obtain ⟨a9, c9, rfl, hc9, h9⟩ := hOu.rows
          obtain ⟨d, hd⟩ : ∃ d, D.length = d := ⟨_, rfl⟩
          rw [hd] at hc9 h9 ndd ⊢
          haveI := belBy_some wr
          by_cases h1d : 1 < d
          · rcases h9 with h9 | ⟨g, o9, rfl, hg9, hS⟩
            · omega
            obtain ⟨q, hq⟩ : ∃ q, q + 1 = d := ⟨d - 1, by omega⟩
            have j3 : (d : Int) - 1 = (q : Int) := by omega
            have wj : IntKind.wrap .i64 (q : Int) = (q : Int) := by rw [IntKind.wrap_i64]; omega
            have q1 : (q : Int) < (d : Int) := by omega
            have q2 : q < d := by omega
            have q3 : (q : Int) ≤ (c9 : Int) := by omega
            have q4 : q ≤ c9 := by omega
            have d1 : (1 : Int) < (d : Int) := by omega
            have d0 : (0 : Int) < (d : Int) := by omega
            obtain ⟨x0, x1⟩ := hS q (by omega)
            obtain ⟨x2, x3⟩ := hS 0 (by omega)
            rw [show o9 + 0 * 2 = o9 by omega] at x2 x3
            have lq := World.block_lt_of_cell? _ _ x0
            simp only at lq
            have y0 := belBy_cell x0
            have y1 := belBy_cell x1
            have y2 := belBy_cell x2
            have y3 := belBy_cell x3
            cases he : (eqK .f64 (px D q) (px D 0) && eqK .f64 (py D q) (py D 0))
            · have e1 : lastL D = D := by
                unfold lastL
                rw [if_neg]
                rintro ⟨_, h⟩
                rw [hd, show d - 1 = q by omega] at h
                exact absurd (he.symm.trans h) (by decide)
              rw [e1, hd] at eLL
              by_cases h3 : d < 3
              · have h3I : (d : Int) < 3 := by omega
                go_wp2
                refine wp_region_quiet_bel (by kernel_rfl) (by kernel_rfl) ?_
                repeat (go_big_quiet_step (fail))
                refine wpQuiet_nil ?_
                rintro _ ⟨nq, rfl⟩
                (try simp only [he])
                go_wp2
                go_ret
                rw [if_pos h3] at eLL
                (try rw [eLL])
                exact ⟨_, rfl, ⟨none, 0, rfl, Nat.le_refl _, .inl rfl⟩, bl_trans BQ nq.h⟩
              · have h3I : ¬ (d : Int) < 3 := by omega
                go_wp2
                refine wp_region_quiet_bel (by kernel_rfl) (by kernel_rfl) ?_
                repeat (go_big_quiet_step (fail))
                refine wpQuiet_nil ?_
                rintro _ ⟨nq, rfl⟩
                (try simp only [he])
                go_wp2
                go_ret
                rw [if_neg h3] at eLL
                (try rw [eLL])
                exact ⟨_, rfl, ⟨_, c9, by rw [hd]; rfl, by omega, .inr ⟨g, o9, rfl, Nat.le_trans BW.size hg9, by rw [hd]; exact hS.bel nq.h⟩⟩, bl_trans BQ nq.h⟩
            · have e1 : lastL D = D.take q := by
                unfold lastL
                rw [hd, show d - 1 = q by omega, if_pos ⟨h1d, he⟩]
              have e2 : (D.take q).length = q := by rw [List.length_take]; omega
              have e3 : ∀ i, i < q → pt (D.take q) i = pt D i := fun i hi => by
                unfold pt
                rw [List.getD_eq_getElem?_getD, List.getD_eq_getElem?_getD, List.getElem?_take_of_lt hi]
              have hS2 : Sl wr g o9 q (px (D.take q)) (py (D.take q)) := (hS.lt_ (by omega)).eq (fun i hi => (px_pt (e3 i hi)).symm) (fun i hi => (py_pt (e3 i hi)).symm)
              rw [e1, e2] at eLL
              by_cases h3 : q < 3
              · have h3I : (q : Int) < 3 := by omega
                go_wp2
                refine wp_region_quiet_bel (by kernel_rfl) (by kernel_rfl) ?_
                repeat (go_big_quiet_step (fail))
                refine wpQuiet_nil ?_
                rintro _ ⟨nq, rfl⟩
                (try simp only [he])
                go_wp2
                go_ret
                rw [if_pos h3] at eLL
                (try rw [eLL])
                exact ⟨_, rfl, ⟨none, 0, rfl, Nat.le_refl _, .inl rfl⟩, bl_trans BQ nq.h⟩
              · have h3I : ¬ (q : Int) < 3 := by omega
                go_wp2
                refine wp_region_quiet_bel (by kernel_rfl) (by kernel_rfl) ?_
                repeat (go_big_quiet_step (fail))
                refine wpQuiet_nil ?_
                rintro _ ⟨nq, rfl⟩
                (try simp only [he])
                go_wp2
                go_ret
                rw [if_neg h3] at eLL
                (try rw [eLL])
                exact ⟨_, rfl, ⟨_, c9, by rw [e2]; rfl, by omega, .inr ⟨g, o9, rfl, Nat.le_trans BW.size hg9, by rw [e2]; exact hS2.bel nq.h⟩⟩, bl_trans BQ nq.h⟩
          · have e1 : lastL D = D := by unfold lastL; rw [if_neg (fun h => h1d (by omega))]
            rw [e1, hd, if_pos (by omega)] at eLL
            rcases (show d = 0 ∨ d = 1 by omega) with rfl | rfl
            all_goals
              go_wp2
              refine wp_region_quiet_bel (by kernel_rfl) (by kernel_rfl) ?_
              repeat (go_big_quiet_step (fail))
              refine wpQuiet_nil ?_
              rintro _ ⟨nq, rfl⟩
              go_wp2
              go_ret
              (try rw [eLL])
              exact ⟨_, rfl, ⟨none, 0, rfl, Nat.le_refl _, .inl rfl⟩, bl_trans BQ nq.h⟩

end Go.Proofs.Ytmgoancijepeoaa
