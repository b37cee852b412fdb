/-
  What each function of package poly answers, and what the reference of its chapter answers: one contract a function, for every float: the answer stands in the relation of its formula to what was given; of the memory that was there nothing has turned.
-/
import Derived.Test.YtfaiaepkmlmoaaaGreatVec
import Derived.Test.YtfaiaepkmlmoaaaGreatMpq
import Derived.Test.YtfaiaepkmlmoaaaGreatOnce
import Derived.Deep.DeepCutAuto
import Derived.Below
import Derived.Laws.MakeOwn
import Derived.Laws.StructEq
import Derived.Deep.LoopGhost
import Derived.BigQuiet
import Derived.OwnWalk
import Derived.Laws.AppendOwn
import Derived.WalkKit
import Derived.WalkLawsBesides
import Derived.WalkSpells
import Derived.ProofKit
import Derived.OpenShut
import Derived.Deep.RegionHeld3
namespace Go.Proofs.YtfaiaepkmlmoaaaGreat
open Go.ChangeShapes Go.WideShapes Go.ChangeAt Go.RowKit
set_option linter.unusedVariables false
set_option linter.unusedSimpArgs false


set_option maxRecDepth 100000 in
set_option maxHeartbeats 8000000 in
theorem rparts_any (a : Option Addr) (n cap : Nat) (Kq : Nat → Int) (R : Nat → Nat) (V : Nat → Value) (N : Nat → Nat) (X Y : Nat → Nat → Nat) (D F B : Nat → Nat) (S : Nat → Bool) (La Ma : Nat → Int) (w : World) (h : n = 0 ∨ ∃ b off, a = some ⟨b, off, none⟩ ∧ Pq w b off n Kq R V D F B S La Ma) (hA : ∀ i, i < n → AnyS w (V i) (N i) (X i) (Y i)) (hr : ∀ i, i < n → okK .f64 (R i)) (hn : n ≤ 1000) : Calls Tryz.prog 6 #[.slice a n cap] w fun e w' => ∃ m j x y f, PaR Kq R N X Y D S n AboutF m j x y f ∧ e = .returned (.tuple #[.agg #[.float .f64 m, .float .f64 j, .float .f64 x, .float .f64 y], .int .i64 f]) ∧ Bel w w' := by
  have B0 := bl_alloc (bl_refl w) #[.float .f64 0, .float .f64 0, .float .f64 0, .float .f64 0] 34
  have z0 : (w.alloc (.cells #[.float .f64 0, .float .f64 0, .float .f64 0, .float .f64 0] 34)).cell? ⟨w.heap.size, 0, none⟩ = some (.float .f64 0) := by rw [World.cell?_alloc_new]; rfl
  have z1 : (w.alloc (.cells #[.float .f64 0, .float .f64 0, .float .f64 0, .float .f64 0] 34)).cell? ⟨w.heap.size, 1, none⟩ = some (.float .f64 0) := by rw [World.cell?_alloc_new]; rfl
  have z2 : (w.alloc (.cells #[.float .f64 0, .float .f64 0, .float .f64 0, .float .f64 0] 34)).cell? ⟨w.heap.size, 2, none⟩ = some (.float .f64 0) := by rw [World.cell?_alloc_new]; rfl
  have z3 : (w.alloc (.cells #[.float .f64 0, .float .f64 0, .float .f64 0, .float .f64 0] 34)).cell? ⟨w.heap.size, 3, none⟩ = some (.float .f64 0) := by rw [World.cell?_alloc_new]; rfl
  by_cases h8 : 8 < n
  · have hnz : (8 : Int) < (n : Int) := by omega
    go_enter Tryz.func6, Tryz.ntmps6
    go_wp2
    refine bodyPost_ret (v := .tuple #[.agg #[.float .f64 0, .float .f64 0, .float .f64 0, .float .f64 0], .int .i64 4]) (by simp [results, Tryz.results6, go_sem] <;> (first | exact ⟨⟨rfl, rfl, rfl, rfl⟩, rfl⟩ | exact ⟨rfl, rfl, rfl, rfl, rfl⟩ | exact ⟨rfl, rfl⟩ | rfl)) rfl ⟨0, 0, 0, 0, 4, .inl ⟨h8, ⟨rfl, rfl, rfl, rfl⟩, rfl⟩, rfl, ?_⟩
    repeat (first | exact bl_refl _ | assumption | apply bl_drewN | apply bl_drew | apply bl_alloc | refine bl_set ?_ (by simp <;> omega) | refine bl_trans ?_ (by assumption))
  have hng : ¬ (8 : Int) < (n : Int) := by omega
  have hoks : ∀ i, i < n → Oks (X i) (Y i) (N i) ∧ okK .f64 (R i) := fun i hi => by obtain ⟨_, _, _, _, _, _, ho, _⟩ := hA i hi; exact ⟨ho, hr i hi⟩
  have hoks := hide hoks
  go_enter Tryz.func6, Tryz.ntmps6
  go_wp2
  go_loopg [4, 5] n (fun kx s4 s5 wr => ∃ (k : Nat) (M : List M4_), s5 = .int .i64 k ∧ k ≤ n ∧ n - k ≤ kx ∧ Hid ((PW Kq R N X Y D S) k M) ∧ OwnR 4 (w.alloc (.cells #[.float .f64 0, .float .f64 0, .float .f64 0, .float .f64 0] 34)).heap.size wr s4 M.length (mR M) ∧ Bel (w.alloc (.cells #[.float .f64 0, .float .f64 0, .float .f64 0, .float .f64 0] 34)) wr)
  case atStart => exact ⟨0, [], rfl, by omega, by omega, PW.nil, OwnR.nil _ _ _, bl_refl _⟩
  case round =>
    obtain ⟨k, M, rfl, hkn, hkx, hP, hO, hW⟩ := hrel
    have hML := hP.out.len
    obtain ⟨gv, gc, rfl, hgv⟩ := own_any4 hO
    by_cases hlt : k < n
    · have hkz : (k : Int) < (n : Int) := by omega
      have wi : IntKind.wrap .i64 ((k : Int) + 1) = (k : Int) + 1 := by rw [IntKind.wrap_i64]; omega
      obtain ⟨b, off, rfl, hQ⟩ : ∃ b off, a = some ⟨b, off, none⟩ ∧ Pq w b off n Kq R V D F B S La Ma := by
        rcases h with h | h
        · omega
        · exact h
      obtain ⟨x0, x1, x2, x3, x4, x5, x6, x7, x8⟩ := (hQ.bel (bl_trans B0 hW)) k hlt
      have hAr := (hA k hlt).bel (bl_trans B0 hW)
      have hsz := hW.size
      go_wp2
      refine wp_region_new 17 rfl (fun i v => match i with | 0 => v = .slice (some ⟨b, off, none⟩) n cap | 1 => v = .int .i64 (k : Int) | 2 => v = .pointer (some ⟨b, off + k * 9, none⟩) | 3 => v = .pointer (some ⟨b, off + k * 9, none⟩) | 4 => v = .agg #[.int .u8 (Kq k), .float .f64 (R k), V k] | 5 => v = .slice (some ⟨b, off, none⟩) n cap | 6 => v = .int .i64 (k : Int) | 7 => v = .pointer (some ⟨b, off + k * 9, none⟩) | 8 => v = .pointer (some ⟨b, off + k * 9 + 3, none⟩) | 9 => v = .float .f64 (D k) | 10 => ∃ m j x y f, OfA (Kq k) (R k) (X k) (Y k) (N k) (D k) m j x y f ∧ v = .tuple #[.agg #[.float .f64 m, .float .f64 j, .float .f64 x, .float .f64 y], .int .i64 f] | 11 => ∃ m j x y f, OfA (Kq k) (R k) (X k) (Y k) (N k) (D k) m j x y f ∧ v = .tuple #[.agg #[.float .f64 m, .float .f64 j, .float .f64 x, .float .f64 y], .int .i64 f] | 12 => ∃ m j x y f, OfA (Kq k) (R k) (X k) (Y k) (N k) (D k) m j x y f ∧ v = .agg #[.float .f64 m, .float .f64 j, .float .f64 x, .float .f64 y] | 13 => ∃ m j x y f, OfA (Kq k) (R k) (X k) (Y k) (N k) (D k) m j x y f ∧ v = .int .i64 f | 16 => ∃ m j x y f, OfA (Kq k) (R k) (X k) (Y k) (N k) (D k) m j x y f ∧ v = .int .i64 f | _ => False) [(14, #[.float .f64 0, .float .f64 0, .float .f64 0, .float .f64 0], 34)] [(15, 14, 12)] ?A_wn (by kernel_rfl) (by kernel_rfl) ?hA_wn ?ha_wn ?hst_wn ?hq_wn ?ht_wn
      case hA_wn =>
        intro s
        simp only [putL, dstO, Act.put, List.getElem?_toArray, List.getElem?_cons_zero, List.getElem?_cons_succ, Option.bind_some, List.setIfInBounds_toArray, List.set_cons_zero, List.set_cons_succ, if_true]
        all_goals exact rfl
      case ha_wn =>
        intro i o c ty hi ho hal B W K hK
        rcases (show i = 0 ∨ i = 1 ∨ i = 2 ∨ i = 3 ∨ i = 4 ∨ i = 5 ∨ i = 6 ∨ i = 7 ∨ i = 8 ∨ i = 9 ∨ i = 10 ∨ i = 11 ∨ i = 12 ∨ i = 13 ∨ i = 14 ∨ i = 15 ∨ i = 16 by omega) with rfl | rfl | rfl | rfl | rfl | rfl | rfl | rfl | rfl | rfl | rfl | rfl | rfl | rfl | rfl | rfl | rfl
        · cases (show none = some (c, ty) from hal)
        · cases (show none = some (c, ty) from hal)
        · cases (show none = some (c, ty) from hal)
        · cases (show none = some (c, ty) from hal)
        · cases (show none = some (c, ty) from hal)
        · cases (show none = some (c, ty) from hal)
        · cases (show none = some (c, ty) from hal)
        · cases (show none = some (c, ty) from hal)
        · cases (show none = some (c, ty) from hal)
        · cases (show none = some (c, ty) from hal)
        · cases (show none = some (c, ty) from hal)
        · cases (show none = some (c, ty) from hal)
        · cases (show none = some (c, ty) from hal)
        · cases (show none = some (c, ty) from hal)
        · cases ho; cases (show some (#[.float .f64 0, .float .f64 0, .float .f64 0, .float .f64 0], 34) = some (c, ty) from hal); go_simp; exact hK.out
        · cases (show none = some (c, ty) from hal)
        · cases (show none = some (c, ty) from hal)
      case hst_wn =>
        intro t o a d c ty hlt ho hts hal s hs W b eb hc hf K hK
        rcases (show t = 0 ∨ t = 1 ∨ t = 2 ∨ t = 3 ∨ t = 4 ∨ t = 5 ∨ t = 6 ∨ t = 7 ∨ t = 8 ∨ t = 9 ∨ t = 10 ∨ t = 11 ∨ t = 12 ∨ t = 13 ∨ t = 14 ∨ t = 15 ∨ t = 16 by omega) with rfl | rfl | rfl | rfl | rfl | rfl | rfl | rfl | rfl | rfl | rfl | rfl | rfl | rfl | rfl | rfl | rfl
        · cases (show none = some (a, d) from hts)
        · cases (show none = some (a, d) from hts)
        · cases (show none = some (a, d) from hts)
        · cases (show none = some (a, d) from hts)
        · cases (show none = some (a, d) from hts)
        · cases (show none = some (a, d) from hts)
        · cases (show none = some (a, d) from hts)
        · cases (show none = some (a, d) from hts)
        · cases (show none = some (a, d) from hts)
        · cases (show none = some (a, d) from hts)
        · cases (show none = some (a, d) from hts)
        · cases (show none = some (a, d) from hts)
        · cases (show none = some (a, d) from hts)
        · cases (show none = some (a, d) from hts)
        · cases (show none = some (a, d) from hts)
        · cases ho; cases (show some (14, 12) = some (a, d) from hts); cases (show some (#[.float .f64 0, .float .f64 0, .float .f64 0, .float .f64 0], 34) = some (c, ty) from hal)
          obtain ⟨m, j, x, y, f, hOf, e12⟩ := hs 12 (by decide) rfl rfl (by kernel_rfl)
          obtain ⟨u0, hu0⟩ := Option.isSome_iff_exists.1 (hc 0 (by decide))
          obtain ⟨u1, hu1⟩ := Option.isSome_iff_exists.1 (hc 1 (by decide))
          obtain ⟨u2, hu2⟩ := Option.isSome_iff_exists.1 (hc 2 (by decide))
          obtain ⟨u3, hu3⟩ := Option.isSome_iff_exists.1 (hc 3 (by decide))
          simp only [eb, e12] at hK ⊢
          clear hs
          go_simp
          exact hK.out
        · cases (show none = some (a, d) from hts)
      case hq_wn =>
        intro i o hi hal hts ho s hs W hb K hK
        have u0 := keep hb x0; have u1 := keep hb x1; have u2 := keep hb x2; have u3 := keep hb x3; have hAr2 := hAr.bel hb
        rcases (show i = 0 ∨ i = 1 ∨ i = 2 ∨ i = 3 ∨ i = 4 ∨ i = 5 ∨ i = 6 ∨ i = 7 ∨ i = 8 ∨ i = 9 ∨ i = 10 ∨ i = 11 ∨ i = 12 ∨ i = 13 ∨ i = 14 ∨ i = 15 ∨ i = 16 by omega) with rfl | rfl | rfl | rfl | rfl | rfl | rfl | rfl | rfl | rfl | rfl | rfl | rfl | rfl | rfl | rfl | rfl
        · cases ho
          simp only [Act.put, List.setIfInBounds_toArray, List.set_cons_zero, List.set_cons_succ] at hK
          clear hs hal hts
          go_simp
          all_goals (try go_wp2_with (first | (go_at_call 16; (with_reducible refine (rof_any _ (N k) (X k) (Y k) (Kq k) (R k) (D k) _ hAr2 (hr k hlt)).mono ?_); rintro e w' ⟨m, j, x, y, f, hOf, rfl, hb1⟩)))
          all_goals first | with_reducible exact hK.out _ _ ⟨_, _, _, _, _, hOf, rfl⟩ hb1 | with_reducible exact hK.out _ _ ⟨_, _, _, _, _, hOf, rfl⟩ (bl_refl _) | exact hK.out _ _ rfl (bl_refl _) | exact hK.out _ _ rfl (by assumption) | exact hK.out _ _ (by assumption) (by assumption)
        · cases ho
          simp only [Act.put, List.setIfInBounds_toArray, List.set_cons_zero, List.set_cons_succ] at hK
          clear hs hal hts
          go_simp
          all_goals (try go_wp2_with (first | (go_at_call 16; (with_reducible refine (rof_any _ (N k) (X k) (Y k) (Kq k) (R k) (D k) _ hAr2 (hr k hlt)).mono ?_); rintro e w' ⟨m, j, x, y, f, hOf, rfl, hb1⟩)))
          all_goals first | with_reducible exact hK.out _ _ ⟨_, _, _, _, _, hOf, rfl⟩ hb1 | with_reducible exact hK.out _ _ ⟨_, _, _, _, _, hOf, rfl⟩ (bl_refl _) | exact hK.out _ _ rfl (bl_refl _) | exact hK.out _ _ rfl (by assumption) | exact hK.out _ _ (by assumption) (by assumption)
        · cases ho
          have e0 : s 0 = _ := hs 0 (by decide) rfl rfl (by kernel_rfl)
          have e1 : s 1 = _ := hs 1 (by decide) rfl rfl (by kernel_rfl)
          simp only [e0, e1] at hK ⊢
          simp only [Act.put, List.setIfInBounds_toArray, List.set_cons_zero, List.set_cons_succ] at hK
          clear hs hal hts
          go_simp
          all_goals (try go_wp2_with (first | (go_at_call 16; (with_reducible refine (rof_any _ (N k) (X k) (Y k) (Kq k) (R k) (D k) _ hAr2 (hr k hlt)).mono ?_); rintro e w' ⟨m, j, x, y, f, hOf, rfl, hb1⟩)))
          all_goals first | with_reducible exact hK.out _ _ ⟨_, _, _, _, _, hOf, rfl⟩ hb1 | with_reducible exact hK.out _ _ ⟨_, _, _, _, _, hOf, rfl⟩ (bl_refl _) | exact hK.out _ _ rfl (bl_refl _) | exact hK.out _ _ rfl (by assumption) | exact hK.out _ _ (by assumption) (by assumption)
        · cases ho
          have e2 : s 2 = _ := hs 2 (by decide) rfl rfl (by kernel_rfl)
          simp only [e2] at hK ⊢
          simp only [Act.put, List.setIfInBounds_toArray, List.set_cons_zero, List.set_cons_succ] at hK
          clear hs hal hts
          go_simp
          all_goals (try go_wp2_with (first | (go_at_call 16; (with_reducible refine (rof_any _ (N k) (X k) (Y k) (Kq k) (R k) (D k) _ hAr2 (hr k hlt)).mono ?_); rintro e w' ⟨m, j, x, y, f, hOf, rfl, hb1⟩)))
          all_goals first | with_reducible exact hK.out _ _ ⟨_, _, _, _, _, hOf, rfl⟩ hb1 | with_reducible exact hK.out _ _ ⟨_, _, _, _, _, hOf, rfl⟩ (bl_refl _) | exact hK.out _ _ rfl (bl_refl _) | exact hK.out _ _ rfl (by assumption) | exact hK.out _ _ (by assumption) (by assumption)
        · cases ho
          have e3 : s 3 = _ := hs 3 (by decide) rfl rfl (by kernel_rfl)
          simp only [e3] at hK ⊢
          simp only [Act.put, List.setIfInBounds_toArray, List.set_cons_zero, List.set_cons_succ] at hK
          clear hs hal hts
          go_simp
          all_goals (try go_wp2_with (first | (go_at_call 16; (with_reducible refine (rof_any _ (N k) (X k) (Y k) (Kq k) (R k) (D k) _ hAr2 (hr k hlt)).mono ?_); rintro e w' ⟨m, j, x, y, f, hOf, rfl, hb1⟩)))
          all_goals first | with_reducible exact hK.out _ _ ⟨_, _, _, _, _, hOf, rfl⟩ hb1 | with_reducible exact hK.out _ _ ⟨_, _, _, _, _, hOf, rfl⟩ (bl_refl _) | exact hK.out _ _ rfl (bl_refl _) | exact hK.out _ _ rfl (by assumption) | exact hK.out _ _ (by assumption) (by assumption)
        · cases ho
          simp only [Act.put, List.setIfInBounds_toArray, List.set_cons_zero, List.set_cons_succ] at hK
          clear hs hal hts
          go_simp
          all_goals (try go_wp2_with (first | (go_at_call 16; (with_reducible refine (rof_any _ (N k) (X k) (Y k) (Kq k) (R k) (D k) _ hAr2 (hr k hlt)).mono ?_); rintro e w' ⟨m, j, x, y, f, hOf, rfl, hb1⟩)))
          all_goals first | with_reducible exact hK.out _ _ ⟨_, _, _, _, _, hOf, rfl⟩ hb1 | with_reducible exact hK.out _ _ ⟨_, _, _, _, _, hOf, rfl⟩ (bl_refl _) | exact hK.out _ _ rfl (bl_refl _) | exact hK.out _ _ rfl (by assumption) | exact hK.out _ _ (by assumption) (by assumption)
        · cases ho
          simp only [Act.put, List.setIfInBounds_toArray, List.set_cons_zero, List.set_cons_succ] at hK
          clear hs hal hts
          go_simp
          all_goals (try go_wp2_with (first | (go_at_call 16; (with_reducible refine (rof_any _ (N k) (X k) (Y k) (Kq k) (R k) (D k) _ hAr2 (hr k hlt)).mono ?_); rintro e w' ⟨m, j, x, y, f, hOf, rfl, hb1⟩)))
          all_goals first | with_reducible exact hK.out _ _ ⟨_, _, _, _, _, hOf, rfl⟩ hb1 | with_reducible exact hK.out _ _ ⟨_, _, _, _, _, hOf, rfl⟩ (bl_refl _) | exact hK.out _ _ rfl (bl_refl _) | exact hK.out _ _ rfl (by assumption) | exact hK.out _ _ (by assumption) (by assumption)
        · cases ho
          have e5 : s 5 = _ := hs 5 (by decide) rfl rfl (by kernel_rfl)
          have e6 : s 6 = _ := hs 6 (by decide) rfl rfl (by kernel_rfl)
          simp only [e5, e6] at hK ⊢
          simp only [Act.put, List.setIfInBounds_toArray, List.set_cons_zero, List.set_cons_succ] at hK
          clear hs hal hts
          go_simp
          all_goals (try go_wp2_with (first | (go_at_call 16; (with_reducible refine (rof_any _ (N k) (X k) (Y k) (Kq k) (R k) (D k) _ hAr2 (hr k hlt)).mono ?_); rintro e w' ⟨m, j, x, y, f, hOf, rfl, hb1⟩)))
          all_goals first | with_reducible exact hK.out _ _ ⟨_, _, _, _, _, hOf, rfl⟩ hb1 | with_reducible exact hK.out _ _ ⟨_, _, _, _, _, hOf, rfl⟩ (bl_refl _) | exact hK.out _ _ rfl (bl_refl _) | exact hK.out _ _ rfl (by assumption) | exact hK.out _ _ (by assumption) (by assumption)
        · cases ho
          have e7 : s 7 = _ := hs 7 (by decide) rfl rfl (by kernel_rfl)
          simp only [e7] at hK ⊢
          simp only [Act.put, List.setIfInBounds_toArray, List.set_cons_zero, List.set_cons_succ] at hK
          clear hs hal hts
          go_simp
          all_goals (try go_wp2_with (first | (go_at_call 16; (with_reducible refine (rof_any _ (N k) (X k) (Y k) (Kq k) (R k) (D k) _ hAr2 (hr k hlt)).mono ?_); rintro e w' ⟨m, j, x, y, f, hOf, rfl, hb1⟩)))
          all_goals first | with_reducible exact hK.out _ _ ⟨_, _, _, _, _, hOf, rfl⟩ hb1 | with_reducible exact hK.out _ _ ⟨_, _, _, _, _, hOf, rfl⟩ (bl_refl _) | exact hK.out _ _ rfl (bl_refl _) | exact hK.out _ _ rfl (by assumption) | exact hK.out _ _ (by assumption) (by assumption)
        · cases ho
          have e8 : s 8 = _ := hs 8 (by decide) rfl rfl (by kernel_rfl)
          simp only [e8] at hK ⊢
          simp only [Act.put, List.setIfInBounds_toArray, List.set_cons_zero, List.set_cons_succ] at hK
          clear hs hal hts
          go_simp
          all_goals (try go_wp2_with (first | (go_at_call 16; (with_reducible refine (rof_any _ (N k) (X k) (Y k) (Kq k) (R k) (D k) _ hAr2 (hr k hlt)).mono ?_); rintro e w' ⟨m, j, x, y, f, hOf, rfl, hb1⟩)))
          all_goals first | with_reducible exact hK.out _ _ ⟨_, _, _, _, _, hOf, rfl⟩ hb1 | with_reducible exact hK.out _ _ ⟨_, _, _, _, _, hOf, rfl⟩ (bl_refl _) | exact hK.out _ _ rfl (bl_refl _) | exact hK.out _ _ rfl (by assumption) | exact hK.out _ _ (by assumption) (by assumption)
        · cases ho
          have e4 : s 4 = _ := hs 4 (by decide) rfl rfl (by kernel_rfl)
          have e9 : s 9 = _ := hs 9 (by decide) rfl rfl (by kernel_rfl)
          simp only [e4, e9] at hK ⊢
          simp only [Act.put, List.setIfInBounds_toArray, List.set_cons_zero, List.set_cons_succ] at hK
          clear hs hal hts
          go_simp
          all_goals (try go_wp2_with (first | (go_at_call 16; (with_reducible refine (rof_any _ (N k) (X k) (Y k) (Kq k) (R k) (D k) _ hAr2 (hr k hlt)).mono ?_); rintro e w' ⟨m, j, x, y, f, hOf, rfl, hb1⟩)))
          all_goals first | with_reducible exact hK.out _ _ ⟨_, _, _, _, _, hOf, rfl⟩ hb1 | with_reducible exact hK.out _ _ ⟨_, _, _, _, _, hOf, rfl⟩ (bl_refl _) | exact hK.out _ _ rfl (bl_refl _) | exact hK.out _ _ rfl (by assumption) | exact hK.out _ _ (by assumption) (by assumption)
        · cases ho
          obtain ⟨m, j, x, y, f, hOf, e10⟩ := hs 10 (by decide) rfl rfl (by kernel_rfl)
          simp only [e10] at hK ⊢
          simp only [Act.put, List.setIfInBounds_toArray, List.set_cons_zero, List.set_cons_succ] at hK
          clear hs hal hts
          go_simp
          all_goals (try go_wp2_with (first | (go_at_call 16; (with_reducible refine (rof_any _ (N k) (X k) (Y k) (Kq k) (R k) (D k) _ hAr2 (hr k hlt)).mono ?_); rintro e w' ⟨m, j, x, y, f, hOf, rfl, hb1⟩)))
          all_goals first | with_reducible exact hK.out _ _ ⟨_, _, _, _, _, hOf, rfl⟩ hb1 | with_reducible exact hK.out _ _ ⟨_, _, _, _, _, hOf, rfl⟩ (bl_refl _) | exact hK.out _ _ rfl (bl_refl _) | exact hK.out _ _ rfl (by assumption) | exact hK.out _ _ (by assumption) (by assumption)
        · cases ho
          obtain ⟨m, j, x, y, f, hOf, e11⟩ := hs 11 (by decide) rfl rfl (by kernel_rfl)
          simp only [e11] at hK ⊢
          simp only [Act.put, List.setIfInBounds_toArray, List.set_cons_zero, List.set_cons_succ] at hK
          clear hs hal hts
          go_simp
          all_goals (try go_wp2_with (first | (go_at_call 16; (with_reducible refine (rof_any _ (N k) (X k) (Y k) (Kq k) (R k) (D k) _ hAr2 (hr k hlt)).mono ?_); rintro e w' ⟨m, j, x, y, f, hOf, rfl, hb1⟩)))
          all_goals first | with_reducible exact hK.out _ _ ⟨_, _, _, _, _, hOf, rfl⟩ hb1 | with_reducible exact hK.out _ _ ⟨_, _, _, _, _, hOf, rfl⟩ (bl_refl _) | exact hK.out _ _ rfl (bl_refl _) | exact hK.out _ _ rfl (by assumption) | exact hK.out _ _ (by assumption) (by assumption)
        · cases ho
          obtain ⟨m, j, x, y, f, hOf, e11⟩ := hs 11 (by decide) rfl rfl (by kernel_rfl)
          simp only [e11] at hK ⊢
          simp only [Act.put, List.setIfInBounds_toArray, List.set_cons_zero, List.set_cons_succ] at hK
          clear hs hal hts
          go_simp
          all_goals (try go_wp2_with (first | (go_at_call 16; (with_reducible refine (rof_any _ (N k) (X k) (Y k) (Kq k) (R k) (D k) _ hAr2 (hr k hlt)).mono ?_); rintro e w' ⟨m, j, x, y, f, hOf, rfl, hb1⟩)))
          all_goals first | with_reducible exact hK.out _ _ ⟨_, _, _, _, _, hOf, rfl⟩ hb1 | with_reducible exact hK.out _ _ ⟨_, _, _, _, _, hOf, rfl⟩ (bl_refl _) | exact hK.out _ _ rfl (bl_refl _) | exact hK.out _ _ rfl (by assumption) | exact hK.out _ _ (by assumption) (by assumption)
        · cases (show some _ = none from hal)
        · cases (show some _ = none from hts)
        · cases ho
          obtain ⟨m, j, x, y, f, hOf, e13⟩ := hs 13 (by decide) rfl rfl (by kernel_rfl)
          simp only [e13] at hK ⊢
          simp only [Act.put, List.setIfInBounds_toArray, List.set_cons_zero, List.set_cons_succ] at hK
          clear hs hal hts
          go_simp
          all_goals (try go_wp2_with (first | (go_at_call 16; (with_reducible refine (rof_any _ (N k) (X k) (Y k) (Kq k) (R k) (D k) _ hAr2 (hr k hlt)).mono ?_); rintro e w' ⟨m, j, x, y, f, hOf, rfl, hb1⟩)))
          all_goals first | with_reducible exact hK.out _ _ ⟨_, _, _, _, _, hOf, rfl⟩ hb1 | with_reducible exact hK.out _ _ ⟨_, _, _, _, _, hOf, rfl⟩ (bl_refl _) | exact hK.out _ _ rfl (bl_refl _) | exact hK.out _ _ rfl (by assumption) | exact hK.out _ _ (by assumption) (by assumption)
      case ht_wn =>
        intro s hs W hb hJ
        have e0 : s 0 = _ := hs 0 (by decide) rfl rfl
        have e1 : s 1 = _ := hs 1 (by decide) rfl rfl
        have e2 : s 2 = _ := hs 2 (by decide) rfl rfl
        have e3 : s 3 = _ := hs 3 (by decide) rfl rfl
        have e4 : s 4 = _ := hs 4 (by decide) rfl rfl
        have e5 : s 5 = _ := hs 5 (by decide) rfl rfl
        have e6 : s 6 = _ := hs 6 (by decide) rfl rfl
        have e7 : s 7 = _ := hs 7 (by decide) rfl rfl
        have e8 : s 8 = _ := hs 8 (by decide) rfl rfl
        have e9 : s 9 = _ := hs 9 (by decide) rfl rfl
        obtain ⟨_, _, _, _, _, _, e10⟩ := hs 10 (by decide) rfl rfl
        obtain ⟨_, _, _, _, _, _, e11⟩ := hs 11 (by decide) rfl rfl
        obtain ⟨m, j, x, y, f0, hOf0, e12⟩ := hs 12 (by decide) rfl rfl
        obtain ⟨_, _, _, _, _, _, e13⟩ := hs 13 (by decide) rfl rfl
        obtain ⟨m2, j2, x2, y2, f, hOf, e16⟩ := hs 16 (by decide) rfl rfl
        obtain ⟨p14, e14, n14, l14, cl14⟩ := hJ.1 14 _ _ (by decide) rfl rfl
        have k_p14_0 : W.cell? ⟨p14, 0, none⟩ = some (cellAt (s 12) 0) := cl14 0 (by decide)
        have k_p14_1 : W.cell? ⟨p14, 1, none⟩ = some (cellAt (s 12) 1) := cl14 1 (by decide)
        have k_p14_2 : W.cell? ⟨p14, 2, none⟩ = some (cellAt (s 12) 2) := cl14 2 (by decide)
        have k_p14_3 : W.cell? ⟨p14, 3, none⟩ = some (cellAt (s 12) 3) := cl14 3 (by decide)
        rw [e12] at k_p14_0 k_p14_1 k_p14_2 k_p14_3
        simp only [cellAt] at k_p14_0 k_p14_1 k_p14_2 k_p14_3
        simp only [e0, e1, e2, e3, e4, e5, e6, e7, e8, e9, e10, e11, e12, e13, e16, e14]
        clear hs hJ e0 e1 e2 e3 e4 e5 e6 e7 e8 e9 e10 e11 e12 e13 e16 e14 cl14
        have ef : f0 = f := (hOf0.sm hOf).2.2.2.2
        subst ef
        have B2 := bl_trans hW hb
        have C6 := (hQ.bel (bl_trans B0 B2) k hlt).2.2.2.2.2.2.1
        by_cases hf : f0 = 0
        · subst hf
          have hOf0 := hide hOf0
          cases hs : S k with
          | true =>
            rw [hs] at C6
            go_wp2
            go_roundg (n - (k + 1))
            case measure => omega
            case rel => exact ⟨k + 1, M, by go_num, by omega, by omega, hP.out.sens hOf0.out hs, hO.bel hb, B2⟩
          | false =>
            rw [hs] at C6
            have hO1 := (hO.bel hb).bel (bl_alloc (bl_refl W) #[.float .f64 m, .float .f64 j, .float .f64 x, .float .f64 y] 34)
            have hR1 := mk_rwp W [.float .f64 m, .float .f64 j, .float .f64 x, .float .f64 y] 34
            go_wp2_with (first | (at_builtin; refine wpList_appR (P := Tryz.prog) (sz := 4) (by_ := 32) (R := mR M) (N := [.float .f64 m, .float .f64 j, .float .f64 x, .float .f64 y]) 44 34 rfl _ _ rfl Tryz.underlying44 info_mass rfl rfl _ 0 1 1 rfl hO1 rfl hR1 (one4 m j x y) (by decide) (by have := B2.size; simp only [World.size_alloc] at this ⊢; omega) (by unfold maxLen; omega) (by omega) ?_; intro v2 w2 hO2 hv2 hb2; have B3 := hb2 (w.alloc (.cells #[.float .f64 0, .float .f64 0, .float .f64 0, .float .f64 0] 34)) (bl_alloc B2 _ _) (Nat.le_refl _)))
            go_roundg (n - (k + 1))
            case measure => omega
            case rel => exact ⟨k + 1, M ++ [(m, j, x, y)], by go_num, by omega, by omega, hP.out.put hOf0.out hs, by rw [mR_snoc, List.length_append]; exact hO2, B3⟩
        · have R0 := keep B2 z0
          have R1 := keep B2 z1
          have R2 := keep B2 z2
          have R3 := keep B2 z3
          have zf : ∀ o, W.frozen? ⟨w.heap.size, o, none⟩ = false := fun o => (B2.2 _).trans (fz_alloc (fresh_frozen (Nat.le_refl _)))
          obtain ⟨F0, F1, F2, F3⟩ := set4_at (p := .float .f64 0) (q := .float .f64 0) (r := .float .f64 0) (s := .float .f64 0) R0 R1 R2 R3
          go_wp2
          refine bodyPost_ret (v := .tuple #[.agg #[.float .f64 0, .float .f64 0, .float .f64 0, .float .f64 0], .int .i64 f0]) (by simp [F0, F1, F2, F3, results, Tryz.results6, go_sem] <;> (first | exact ⟨⟨rfl, rfl, rfl, rfl⟩, rfl⟩ | exact ⟨rfl, rfl, rfl, rfl, rfl⟩ | exact ⟨rfl, rfl⟩ | rfl)) rfl ⟨0, 0, 0, 0, f0, .inr (.inl ⟨by omega, k, M, _, _, _, _, hlt, hP.out, hOf0, hf, rfl, rfl, rfl, rfl⟩), rfl, ?_⟩
          exact bl_set (bl_set (bl_set (bl_set (bl_trans B0 B2) (Nat.le_refl _)) (Nat.le_refl _)) (Nat.le_refl _)) (Nat.le_refl _)
    · have hk : k = n := by omega
      subst hk
      have hjn : Calls Tryz.prog 17 #[.slice gv M.length gc] wr fun e w' => ∃ m j x y f, JoinA (fA M) (fB M) (fC M) (fD M) M.length AboutF m j x y f ∧ e = .returned (.tuple #[.agg #[.float .f64 m, .float .f64 j, .float .f64 x, .float .f64 y], .int .i64 f]) ∧ Bel wr w' := by
        rcases Nat.eq_zero_or_pos M.length with h0 | h0
        · rw [h0]; exact rjoin_none _ _ _ _ _ _ _
        · obtain ⟨q, rfl, hc, hR⟩ := hgv h0
          exact rjoin_some _ _ _ _ _ _ _ _ _ (mR_ml hR) (fun i hi => by
            have hq2 : M[i]? = some (M.getD i (0, 0, 0, 0)) := by rw [List.getD_eq_getElem?_getD, List.getElem?_eq_getElem hi]; rfl
            exact hP.out.okc hoks.out _ (List.mem_of_getElem? hq2)) h0 hc (by omega)
      go_wp2_with (first | (go_at_call 17; (with_reducible refine hjn.mono ?_); rintro e w3 ⟨m, j, x, y, f, hJ, rfl, hb3⟩; have B3 := bl_trans hW hb3; have R0 := keep B3 z0; have R1 := keep B3 z1; have R2 := keep B3 z2; have R3 := keep B3 z3; have zf : ∀ o, w3.frozen? ⟨w.heap.size, o, none⟩ = false := fun o => (B3.2 _).trans (fz_alloc (fresh_frozen (Nat.le_refl _)))))
      obtain ⟨F0, F1, F2, F3⟩ := set4_at (p := .float .f64 m) (q := .float .f64 j) (r := .float .f64 x) (s := .float .f64 y) R0 R1 R2 R3
      refine bodyPost_ret (v := .tuple #[.agg #[.float .f64 m, .float .f64 j, .float .f64 x, .float .f64 y], .int .i64 f]) (by simp [F0, F1, F2, F3, results, Tryz.results6, go_sem] <;> (first | exact ⟨⟨rfl, rfl, rfl, rfl⟩, rfl⟩ | exact ⟨rfl, rfl, rfl, rfl, rfl⟩ | exact ⟨rfl, rfl⟩ | rfl)) rfl ⟨m, j, x, y, f, .inr (.inr ⟨by omega, M, hP.out, hJ⟩), rfl, ?_⟩
      exact bl_set (bl_set (bl_set (bl_set (bl_trans B0 B3) (Nat.le_refl _)) (Nat.le_refl _)) (Nat.le_refl _)) (Nat.le_refl _)

end Go.Proofs.YtfaiaepkmlmoaaaGreat
