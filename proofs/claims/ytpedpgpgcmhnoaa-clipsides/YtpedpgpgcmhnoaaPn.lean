/-
  What each function of package poly answers, and what the reference of its chapter answers: one contract a function, for every float: the answer stands in the relation of its formula to what was given; of the memory that was there nothing has turned.
-/
import Derived.Test.YtpedpgpgcmhnoaaVec
import Derived.Test.YtpedpgpgcmhnoaaPm
import Derived.Below
import Derived.OwnWalk
import Derived.Laws.MakeOwn
import Derived.WalkKit
import Derived.WalkLawsBesides
import Derived.WalkSpells
import Derived.ProofKit
import Derived.OpenShut
import Derived.Deep.RegionHeld3
namespace Go.Proofs.Ytpedpgpgcmhnoaa
open Go.ChangeShapes Go.WideShapes Go.ChangeAt Go.RowKit
set_option linter.unusedVariables false
set_option linter.unusedSimpArgs false


theorem Own.mono {a b : Nat} {w : World} {v : Value} {L : List Pt} (h : Own b w v L) (hab : a ≤ b) : Own a w v L := by
  rcases h with h | ⟨g, c, h1, h2, h3⟩
  · exact .inl h
  · exact .inr ⟨g, c, h1, Nat.le_trans hab h2, h3⟩
theorem make_z (n : Nat) (z : Int) (hz : z = (n : Int)) (hn : n ≤ 1000) (W : World) : (Instr.makeSlice 27 (.int .i64 z) (.int .i64 z)).run Try.prog W = .ok (.slice (some ⟨W.heap.size, 0, none⟩) n n) (W.alloc (.cells (madeCells #[.float .f64 0, .float .f64 0] (n * 2)) 24)) := by
  subst hz; exact make_vec n hn W
theorem gdl_of {L : List Pt} (g : Gd (px L) (py L) L.length) : GdL L := fun p hp => by
  obtain ⟨i, hi, e⟩ := List.getElem_of_mem hp
  have h := g i hi
  unfold px py pt at h
  rw [List.getD_eq_getElem?_getD, List.getElem?_eq_getElem hi, e] at h
  exact h
theorem nums_of {L : List Pt} (g : GdL L) : Nums L := fun p hp => ⟨fin_num (g p hp).1.2.1, fin_num (g p hp).2.2.1⟩
set_option maxRecDepth 100000 in
set_option maxHeartbeats 4000000 in
theorem hull_small (b off cap : Nat) (L : List Pt) (w : World) (hs : Sl w b off L.length (px L) (py L)) (o : Oks (px L) (py L) L.length) (hp : 0 < L.length) (hn : L.length < 20) (hcap : L.length ≤ cap) (hz : plcE (px L) (py L) L.length = 0) (h2 : 2 ≤ (inOrd L).length) (hch : chkE (px (hullD (inOrd L))) (py (hullD (inOrd L))) (hullD (inOrd L)).length = 0) :
    Calls Try.prog 29 #[.slice (some ⟨b, off, none⟩) L.length cap] w fun e w' => ∃ v, e = .returned (.tuple #[v, .int .i64 0]) ∧ Own w.heap.size w' v (hullD (inOrd L)) ∧ Bel w w' := by
  have gd := gdl_of (gd_plc o hz).1
  have nm := nums_of gd
  obtain ⟨m, hm⟩ : ∃ m, (inOrd L).length = m := ⟨_, rfl⟩
  have hml : m ≤ L.length := by rw [← hm]; exact inOrd_len L
  rw [hm] at h2
  have gdD : GdL (inOrd L) := fun p h => gd p (inOrd_mem hp h)
  have gdR : GdL (inOrd L).reverse := fun p h => gdD p (List.mem_reverse.1 h)
  have hmk := fun W => make_z (2 * m) (2 * (m : Int)) (by omega) (by omega) W
  have wm : IntKind.wrap .i64 (2 * (m : Int)) = 2 * (m : Int) := by rw [IntKind.wrap_i64]; omega
  have mm : 2 * m - m = m := by omega
  have i1 : (m : Int) ≤ 2 * (m : Int) := by omega
  have i0 : (0 : Int) ≤ (m : Int) := by omega
  have i2 : m ≤ 2 * m := by omega
  go_enter Try.func29, Try.ntmps29
  go_wp2_with (first | (go_at_call 54; refine (plc_some b off L.length cap _ _ w hs hp (by unfold maxLen; omega) hcap).mono ?_; rintro e w_1 ⟨rfl, hB1⟩; rw [hz]) | (go_at_call 62; refine (inOrder_small b off L.length cap L w_1 rfl (hs.bel hB1) nm hp hn hcap).mono ?_; rintro e w_2 ⟨g, c, rfl, hg0, hgc, hB2, hS2⟩; rw [hm] at hgc hS2; rw [hm]))
  have B23 := bl_alloc (bl_refl w_2) (madeCells #[.float .f64 0, .float .f64 0] (2 * m * 2)) 24
  have hM3 := made_sl w_2 24 (2 * m)
  have B2 : Bel w w_2 := bl_trans hB1 hB2
  have hgl := hS2.lt (by omega)
  obtain ⟨W3, hW3⟩ : ∃ W3, w_2.alloc (.cells (madeCells #[.float .f64 0, .float .f64 0] (2 * m * 2)) 24) = W3 := ⟨_, rfl⟩
  obtain ⟨g2, hg2⟩ : ∃ g2, w_2.heap.size = g2 := ⟨_, rfl⟩
  rw [hW3] at B23 hM3 ⊢
  rw [hg2] at hM3 hgl ⊢
  have hs2 := B2.size
  have hg : w.heap.size ≤ g := Nat.le_trans hB1.size hg0
  have hgg : g ≠ g2 := by omega
  have hwg : w.heap.size ≤ g2 := by omega
  have B3 : Bel w W3 := bl_trans B2 B23
  have hS3 := hS2.bel B23
  have EXm : ∀ j, j < 2 * m * 2 → (W3.cell? ⟨g2, j, none⟩).isSome = true := fun j hj => by
    obtain ⟨e1, e2⟩ := hM3 (j / 2) (by omega)
    rcases Nat.mod_two_eq_zero_or_one j with h | h
    · rw [show 0 + j / 2 * 2 = j by omega] at e1; rw [e1]; rfl
    · rw [show 0 + j / 2 * 2 + 1 = j by omega] at e2; rw [e2]; rfl
  refine (row_d g2 0 m g 0 m c (inOrd L) W3 hm hS3 gdD hgg (Nat.le_refl _) (by omega) hgc (fun j hj => by rw [Nat.zero_add]; exact EXm j (by omega)) w hwg B3).mono ?_
  rintro e w_4 ⟨rfl, hm4, hS4, hl4, OUT4⟩
  have B4 := hm4.bel w B3 hwg
  have sD4 := hm4.sl hS3 hgg
  clear hW3 hg2 B23 hM3
  go_wp2_with (first | (go_at_call 64; refine (reverse_d g 0 m c (px (inOrd L)) (py (inOrd L)) w_4 sD4 (by omega) (by omega) hgc w hg B4).mono ?_; rintro e w_5 ⟨rfl, hm5, hS5⟩))
  have B5 := hm5.bel w B4 hg
  have hS5' : Sl w_5 g 0 m (px (inOrd L).reverse) (py (inOrd L).reverse) := hS5.eq (fun i hi => by have h := (px_rev (L := inOrd L) (by omega : i < _)).1; rw [hm] at h; exact h.symm) (fun i hi => by have h := (px_rev (L := inOrd L) (by omega : i < _)).2; rw [hm] at h; exact h.symm)
  have hg4 : g2 < w_4.heap.size := by
    obtain ⟨u, hu⟩ := Option.isSome_iff_exists.1 (EXm 0 (by omega))
    exact Nat.lt_of_lt_of_le (World.block_lt_of_cell? _ _ hu) hm4.size
  have g25 : ∀ o, w_5.cell? ⟨g2, o, none⟩ = w_4.cell? ⟨g2, o, none⟩ := fun o => hm5.cell g2 o hg4 (fun h => hgg h.symm)
  have EX5 : ∀ j, j < m * 2 → (w_5.cell? ⟨g2, m * 2 + j, none⟩).isSome = true := fun j hj => by
    rw [g25, OUT4 _ (.inr (by omega))]
    exact EXm _ (by omega)
  refine (row_d g2 (m * 2) m g 0 m c (inOrd L).reverse w_5 (by rw [List.length_reverse, hm]) hS5' gdR hgg (Nat.le_refl _) (by omega) hgc EX5 w hwg B5).mono ?_
  rintro e w_6 ⟨rfl, hm6, hS6, hl6, OUT6⟩
  have B6 := hm6.bel w B5 hwg
  have p1 : 2 ≤ (rowR [] (inOrd L)).length := rowR_two _ _ (by simp [hm]; omega) (.inr (.inr (by rw [hm]; exact h2))) (fun h => by
    have h3 : (inOrd L).length = 0 := by rw [h]; rfl
    omega)
  have p2 : 2 ≤ (rowR [] (inOrd L).reverse).length := rowR_two _ _ (by simp [hm]; omega) (.inr (.inr (by rw [List.length_reverse, hm]; exact h2))) (fun h => by
    have h3 : (inOrd L).length = 0 := by rw [← List.length_reverse, h]; rfl
    omega)
  have hg5 : g2 < w_5.heap.size := Nat.lt_of_lt_of_le hg4 hm5.size
  have hS4' : Sl w_6 g2 0 (rowR [] (inOrd L)).length (px (rowR [] (inOrd L)).reverse) (py (rowR [] (inOrd L)).reverse) := fun i hi => by
    obtain ⟨e1, e2⟩ := hS4 i hi
    refine ⟨?_, ?_⟩
    · rw [OUT6 _ (.inl (by omega)), g25]; exact e1
    · rw [OUT6 _ (.inl (by omega)), g25]; exact e2
  obtain ⟨R1, hR1⟩ : ∃ R1, rowR [] (inOrd L) = R1 := ⟨_, rfl⟩
  obtain ⟨R2, hR2⟩ : ∃ R2, rowR [] (inOrd L).reverse = R2 := ⟨_, rfl⟩
  have hHD : Hid (hullD (inOrd L) = R1.reverse.dropLast ++ R2.reverse.dropLast) := hide (by unfold hullD; rw [hR1, hR2])
  rw [unhide hHD] at hch
  have g1R : GdL R1 := fun p h => by
    rw [← hR1] at h
    rcases rowR_mem _ _ p h with h | h
    · cases h
    · exact gdD p h
  have g2R : GdL R2 := fun p h => by
    rw [← hR2] at h
    rcases rowR_mem _ _ p h with h | h
    · cases h
    · exact gdR p h
  rw [hR1] at p1 hS4' hl4
  rw [hR2] at p2 hS6 hl6
  simp only [hR1, hR2]
  clear hS4 OUT4 OUT6 hm4 hm5 hm6 EXm EX5 g25 hS5 hS5' hS3 sD4 hmk hS2 hR1 hR2
  obtain ⟨A, hA⟩ : ∃ A, R1.reverse.dropLast = A := ⟨_, rfl⟩
  obtain ⟨Bl, hBl⟩ : ∃ Bl, R2.reverse.dropLast = Bl := ⟨_, rfl⟩
  have lA : A.length = R1.length - 1 := by rw [← hA]; simp
  have lB : Bl.length = R2.length - 1 := by rw [← hBl]; simp
  have sA : Sl w_6 g2 0 (R1.length - 1) (px A) (py A) := (hS4'.lt_ (by omega)).eq (fun i hi => by rw [← hA]; exact ((px_drop (by rw [List.length_reverse]; exact hi)).1).symm) (fun i hi => by rw [← hA]; exact ((px_drop (by rw [List.length_reverse]; exact hi)).2).symm)
  have sB : Sl w_6 g2 (m * 2) (R2.length - 1) (px Bl) (py Bl) := (hS6.lt_ (by omega)).eq (fun i hi => by rw [← hBl]; exact ((px_drop (by rw [List.length_reverse]; exact hi)).1).symm) (fun i hi => by rw [← hBl]; exact ((px_drop (by rw [List.length_reverse]; exact hi)).2).symm)
  replace hHD : Hid (hullD (inOrd L) = A ++ Bl) := hide (by rw [unhide hHD, hA, hBl])
  rw [hA, hBl] at hch
  have gAB : GdL (A ++ Bl) := fun p h => by
    rcases List.mem_append.1 h with h | h
    · rw [← hA] at h; exact g1R p (List.mem_reverse.1 ((List.dropLast_sublist _).mem h))
    · rw [← hBl] at h; exact g2R p (List.mem_reverse.1 ((List.dropLast_sublist _).mem h))
  have oAB : Oks (px (A ++ Bl)) (py (A ++ Bl)) (A ++ Bl).length := fun i hi => ⟨(gAB.gd i hi).1.1, (gAB.gd i hi).2.1⟩
  clear hS4' hS6
  go_wp2_with (first | (go_at_call 66; refine (butLast_d _ _ _ _ _ (by omega) (by unfold maxLen; omega) (by omega)).mono ?_; rintro e w' ⟨rfl, rfl⟩))
  obtain ⟨z0, z1⟩ := cell_own (W := w') (n := w'.heap.size) rfl (.slice (some ⟨g2, 0, none⟩) (R1.length - 1) m) (.slice (some ⟨g2, m * 2, none⟩) (R2.length - 1) m) 27
  have B7 := bl_alloc B6 #[.slice (some ⟨g2, 0, none⟩) (R1.length - 1) m, .slice (some ⟨g2, m * 2, none⟩) (R2.length - 1) m] 27
  have b7 := bl_alloc (bl_refl w') #[.slice (some ⟨g2, 0, none⟩) (R1.length - 1) m, .slice (some ⟨g2, m * 2, none⟩) (R2.length - 1) m] 27
  refine (concat_l w'.heap.size g2 0 (R1.length - 1) m g2 (m * 2) (R2.length - 1) m A Bl _ lA lB z0 z1 (sA.bel b7) (sB.bel b7) (by omega) (by omega) (by omega)).mono ?_
  rintro e w_8 ⟨v, rfl, hO, hB8⟩
  have hlen : (A ++ Bl).length = (R1.length - 1) + (R2.length - 1) := by rw [List.length_append, lA, lB]
  obtain ⟨g3, c3, rfl, hg3, hc3, hcm, hS8, _⟩ := hO.get (by omega)
  have B8 := bl_trans B7 hB8
  have hO2 := hO.mono B7.size
  clear z0 z1 hO lA lB
  obtain ⟨lz, hlz⟩ : ∃ lz, (A ++ Bl).length = lz := ⟨_, rfl⟩
  rw [hlz] at hch hS8 hc3 oAB
  simp only [hlz] at hO2 ⊢
  go_wp2_with (first | (go_at_call 18; refine (chk_some g3 0 lz c3 _ _ w_8 hS8 oAB (by omega) (by unfold maxLen; omega) hc3).mono ?_; rintro e w_9 ⟨rfl, hB9⟩; rw [hch]))
  refine bodyPost_ret (v := .tuple #[.slice (some ⟨g3, 0, none⟩) lz c3, .int .i64 0]) (by simp [results, Try.results29, go_sem]) rfl ⟨_, rfl, ?_, bl_trans B8 hB9⟩
  rw [unhide hHD]
  exact hO2.bel hB9

end Go.Proofs.Ytpedpgpgcmhnoaa
