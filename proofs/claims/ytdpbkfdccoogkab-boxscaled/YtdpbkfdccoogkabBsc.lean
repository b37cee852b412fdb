/-
  Plain facts on floats, more: rounding to the nearest rung, sums and products of finite floats, signs turned. No program is named here.
-/
import Derived.Test.YtdpbkfdccoogkabBox
import Derived.Test.YtdpbkfdccoogkabRndz
namespace Go.Proofs.Ytdpbkfdccoogkab
open Ieee Go.RowKit
set_option linter.unusedSimpArgs false

/-! ### Boxes with a power of two -/
theorem sc_rg {i j x x' y y' : Nat} (h : Sc i j x x') (g : Sc i j y y') : rgK .f64 x' ≤ rgK .f64 y' ↔ rgK .f64 x ≤ rgK .f64 y := by
  rw [← mg_rg, ← mg_rg]
  have e1 := h.2.2.2.2.2
  have e2 := g.2.2.2.2.2
  have p1 := Nat.two_pow_pos i
  have p2 := Nat.two_pow_pos j
  constructor
  · intro k
    have := Nat.mul_le_mul_right (2 ^ i) k
    rw [e1, e2] at this
    exact Nat.le_of_mul_le_mul_right this p2
  · intro k
    have := Nat.mul_le_mul_right (2 ^ j) k
    rw [← e1, ← e2] at this
    exact Nat.le_of_mul_le_mul_right this p1
theorem sc_rg0 {i j x x' : Nat} (h : Sc i j x x') : rgK .f64 x' = 0 ↔ rgK .f64 x = 0 := by
  rw [← mg_zero, ← mg_zero]; exact h.zero
theorem sc_wo {i j x x' y y' : Nat} (h : Sc i j x x') (g : Sc i j y y') : woK .f64 x' ≤ woK .f64 y' ↔ woK .f64 x ≤ woK .f64 y := by
  have a := sc_rg h g
  have b := sc_rg g h
  have c := sc_rg0 h
  have d := sc_rg0 g
  rw [woK_eq, woK_eq, woK_eq, woK_eq, h.2.2.2.2.1, g.2.2.2.2.1]
  cases ngK .f64 x <;> cases ngK .f64 y <;> simp <;> omega
theorem sc_le {i j x x' y y' : Nat} (h : Sc i j x x') (g : Sc i j y y') : leK .f64 x' y' = leK .f64 x y := by
  rw [le_fin (fin_num h.1) (fin_num g.1), le_fin (fin_num h.2.1) (fin_num g.2.1)]
  exact decide_eq_decide.2 (sc_wo h g)
theorem sc_lt {i j x x' y y' : Nat} (h : Sc i j x x') (g : Sc i j y y') : ltK .f64 x' y' = ltK .f64 x y := by
  rw [lt_fin (fin_num h.1) (fin_num g.1), lt_fin (fin_num h.2.1) (fin_num g.2.1)]
  have := sc_wo g h
  exact decide_eq_decide.2 (by omega)
theorem sc_lt0 {i j x x' : Nat} (h : Sc i j x x') : ltK .f64 x' 0 = ltK .f64 x 0 ∧ ltK .f64 0 x' = ltK .f64 0 x := by
  have n0 : nanK .f64 0 = false := by decide +kernel
  have z : woK .f64 0 = 0 := by decide +kernel
  rw [lt_fin (fin_num h.1) n0, lt_fin (fin_num h.2.1) n0, lt_fin n0 (fin_num h.1), lt_fin n0 (fin_num h.2.1), z]
  have c := sc_rg0 h
  rw [woK_eq, woK_eq, h.2.2.2.2.1]
  constructor <;> apply decide_eq_decide.2 <;> cases ngK .f64 x <;> simp <;> omega
theorem sc_sg {i j x x' : Nat} (h : Sc i j x x') : sgK .f64 x' = sgK .f64 x := by
  unfold sgK
  rw [(sc_lt0 h).1, (sc_lt0 h).2]
theorem sc_mz {i j x x' : Nat} (h : Sc i j x x') : mzK .f64 x' = mzK .f64 x := by
  unfold mzK
  rw [h.2.2.2.2.1, decide_eq_decide.2 (sc_rg0 h)]
/-- a float of a middling size, and its double by the power -/
structure Pr (j x x' : Nat) : Prop where
  sc : Sc 100 j x x'
  r : Rg 874 1274 x
  r' : Rg 774 1374 x'
theorem pr_of {j s x x' : Nat} (hs : Sc 100 j oneB s) (rs : Rg 974 1174 s) (o : okK .f64 x) (p : plB x = true) (h : resK .mul .f64 x s x') : Pr j x x' := by
  obtain ⟨f, r⟩ := plain_rg o p
  obtain ⟨c, g⟩ := scale_sc f o hs h r rs (by omega) (by omega) (by omega) (by omega)
  exact ⟨c, r, Rg.wide g (by omega) (by omega)⟩
theorem sc_least {i j x x' y y' : Nat} (h : Sc i j x x') (g : Sc i j y y') : leastK .f64 x' y' = (if nanK .f64 x || ltK .f64 y x || mzK .f64 y && decide (rgK .f64 x = 0) then y' else x') := by
  unfold leastK
  rw [fin_num h.1, fin_num h.2.1, sc_lt g h, sc_mz g, decide_eq_decide.2 (sc_rg0 h)]
theorem sc_most {i j x x' y y' : Nat} (h : Sc i j x x') (g : Sc i j y y') : mostK .f64 x' y' = (if nanK .f64 x || ltK .f64 x y || mzK .f64 x && decide (rgK .f64 y = 0) then y' else x') := by
  unfold mostK
  rw [fin_num h.1, fin_num h.2.1, sc_lt h g, sc_mz h, decide_eq_decide.2 (sc_rg0 g)]
theorem pr_least {j x x' y y' : Nat} (h : Pr j x x') (g : Pr j y y') : Pr j (leastK .f64 x y) (leastK .f64 x' y') := by
  rw [sc_least h.sc g.sc]
  unfold leastK
  split <;> assumption
theorem pr_most {j x x' y y' : Nat} (h : Pr j x x') (g : Pr j y y') : Pr j (mostK .f64 x y) (mostK .f64 x' y') := by
  rw [sc_most h.sc g.sc]
  unfold mostK
  split <;> assumption
theorem pr_zero {j : Nat} : Pr j 0 0 := by
  have z : mg 0 = 0 := by decide +kernel
  refine ⟨⟨by decide +kernel, by decide +kernel, by rw [okK64]; decide, by rw [okK64]; decide, rfl, by rw [z]; simp⟩, .inl z, .inl z⟩
/-- the power once more: what is handed on is the same float -/
theorem pr_times {j s x x' t : Nat} (hs : Sc 100 j oneB s) (rs : Rg 974 1174 s) (h : Pr j x x') (ht : resK .mul .f64 x s t) : t = x' := by
  obtain ⟨c, _⟩ := scale_sc h.sc.1 h.sc.2.2.1 hs ht h.r rs (by omega) (by omega) (by omega) (by omega)
  exact c.unique h.sc
theorem times_sc {j s z z' t a b : Nat} (hs : Sc 100 j oneB s) (rs : Rg 974 1174 s) (h : Sc 100 j z z') (r : Rg a b z) (ht : resK .mul .f64 z s t) (u1 : 152 ≤ a) (u3 : b ≤ 1900) : t = z' := by
  obtain ⟨c, _⟩ := scale_sc h.1 h.2.2.1 hs ht r rs (by omega) (by omega) (by omega) (by omega)
  exact c.unique h
theorem pr_over {j a a' b b' c c' d d' e e' f f' g g' h h' : Nat} (pa : Pr j a a') (pb : Pr j b b') (pc : Pr j c c') (pd : Pr j d d') (pe : Pr j e e') (pf : Pr j f f') (pg : Pr j g g') (ph : Pr j h h') :
    bOver a' b' c' d' e' f' g' h' = bOver a b c d e f g h ∧ bIn a' b' c' d' e' f' g' h' = bIn a b c d e f g h := by
  unfold bOver bIn
  rw [sc_le pa.sc pg.sc, sc_le pe.sc pc.sc, sc_le pb.sc ph.sc, sc_le pf.sc pd.sc, sc_le pe.sc pa.sc, sc_le pc.sc pg.sc, sc_le pf.sc pb.sc, sc_le pd.sc ph.sc]
  exact ⟨rfl, rfl⟩
theorem pr_has {j a a' b b' c c' d d' x x' y y' : Nat} (pa : Pr j a a') (pb : Pr j b b') (pc : Pr j c c') (pd : Pr j d d') (px : Pr j x x') (py : Pr j y y') : bHas a' b' c' d' x' y' = bHas a b c d x y := by
  unfold bHas
  rw [sc_le pa.sc px.sc, sc_le px.sc pc.sc, sc_le pb.sc py.sc, sc_le py.sc pd.sc]
theorem pr_chk {j a a' b b' c c' d d' : Nat} (pa : Pr j a a') (pb : Pr j b b') (pc : Pr j c c') (pd : Pr j d d') : bChk a' b' c' d' = bChk a b c d := by
  unfold bChk bFin
  rw [sc_lt pc.sc pa.sc, sc_lt pd.sc pb.sc, pa.sc.1, pb.sc.1, pc.sc.1, pd.sc.1, pa.sc.2.1, pb.sc.2.1, pc.sc.2.1, pd.sc.2.1]
theorem pr_st {j s low low' high high' way way' l h l' h' tl th : Nat} (hs : Sc 100 j oneB s) (rs : Rg 974 1174 s) (pl : Pr j low low') (ph : Pr j high high') (pw' : Pr j way way') (p : StR low high way l h) (p' : StR low' high' way' l' h') (ql : resK .mul .f64 l s tl) (qh : resK .mul .f64 h s th) : l' = tl ∧ h' = th := by
  unfold StR at p p'
  rw [(sc_lt0 pw'.sc).1] at p'
  cases e : ltK .f64 way 0 <;> rw [e] at p p' <;> simp at p p'
  · obtain ⟨rfl, p⟩ := p
    obtain ⟨rfl, p'⟩ := p'
    obtain ⟨c, g, _⟩ := add_sc ph.sc pw'.sc p p' ph.r pw'.r ph.r' pw'.r' (by omega) (by omega) (by omega) (by omega) (by omega) (by omega)
    exact ⟨(pr_times hs rs pl ql).symm, (times_sc hs rs c g qh (by omega) (by omega)).symm⟩
  · obtain ⟨p, rfl⟩ := p
    obtain ⟨p', rfl⟩ := p'
    obtain ⟨c, g, _⟩ := add_sc pl.sc pw'.sc p p' pl.r pw'.r pl.r' pw'.r' (by omega) (by omega) (by omega) (by omega) (by omega) (by omega)
    exact ⟨(times_sc hs rs c g ql (by omega) (by omega)).symm, (pr_times hs rs ph qh).symm⟩
theorem pr_three {j s m : Nat} (hs : Sc 100 j oneB s) (rs : Rg 974 1174 s) (h : resK .mul .f64 threeB s m) : Pr j threeB m := by
  obtain ⟨c, g⟩ := scale_sc three_fin three_ok hs h three_mg rs (by omega) (by omega) (by omega) (by omega)
  exact ⟨c, Rg.wide three_mg (by omega) (by omega), Rg.wide g (by omega) (by omega)⟩
theorem pr_sub {j s x x' y y' z z' t : Nat} (hs : Sc 100 j oneB s) (rs : Rg 974 1174 s) (px : Pr j x x') (py : Pr j y y') (h : resK .sub .f64 x y z) (h' : resK .sub .f64 x' y' z') (q : resK .mul .f64 z s t) : z' = t := by
  obtain ⟨c, g, _⟩ := sub_sc px.sc py.sc h h' px.r py.r px.r' py.r' (by omega) (by omega) (by omega) (by omega) (by omega) (by omega)
  exact (times_sc hs rs c g q (by omega) (by omega)).symm
theorem pr_add {j s x x' y y' z z' t : Nat} (hs : Sc 100 j oneB s) (rs : Rg 974 1174 s) (px : Pr j x x') (py : Pr j y y') (h : resK .add .f64 x y z) (h' : resK .add .f64 x' y' z') (q : resK .mul .f64 z s t) : z' = t := by
  obtain ⟨c, g, _⟩ := add_sc px.sc py.sc h h' px.r py.r px.r' py.r' (by omega) (by omega) (by omega) (by omega) (by omega) (by omega)
  exact (times_sc hs rs c g q (by omega) (by omega)).symm
theorem eq_self_fin {x : Nat} (h : finK .f64 x = true) : eqK .f64 x x = true := by rw [eq_fin (fin_num h) (fin_num h)]; simp
theorem pr_size {j s a a' b b' c c' d d' r r' t : Nat} (hs : Sc 100 j oneB s) (rs : Rg 974 1174 s) (pa : Pr j a a') (pb : Pr j b b') (pc : Pr j c c') (pd : Pr j d d') (h : SizeR a b c d r) (h' : SizeR a' b' c' d' r') (q : resK .mul .f64 r s t) : eqK .f64 r' t = true := by
  obtain ⟨x, y, ⟨h1, h2⟩, h3⟩ := h
  obtain ⟨x', y', ⟨g1, g2⟩, g3⟩ := h'
  obtain ⟨c1, r1, r1'⟩ := sub_sc pc.sc pa.sc h1 g1 pc.r pa.r pc.r' pa.r' (by omega) (by omega) (by omega) (by omega) (by omega) (by omega)
  obtain ⟨c2, r2, r2'⟩ := sub_sc pd.sc pb.sc h2 g2 pd.r pb.r pd.r' pb.r' (by omega) (by omega) (by omega) (by omega) (by omega) (by omega)
  obtain ⟨c3, r3, _⟩ := add_sc c1 c2 h3 g3 r1 r2 r1' r2' (by omega) (by omega) (by omega) (by omega) (by omega) (by omega)
  rw [times_sc hs rs c3 r3 q (by omega) (by omega)]
  exact eq_self_fin c3.2.1
theorem pr_area {j s a a' b b' c c' d d' r r' t u : Nat} (hs : Sc 100 j oneB s) (rs : Rg 974 1174 s) (pa : Pr j a a') (pb : Pr j b b') (pc : Pr j c c') (pd : Pr j d d') (h : AreaR a b c d r) (h' : AreaR a' b' c' d' r') (q : resK .mul .f64 r s t) (q2 : resK .mul .f64 t s u) : eqK .f64 r' u = true := by
  obtain ⟨x, y, ⟨h1, h2⟩, h3⟩ := h
  obtain ⟨x', y', ⟨g1, g2⟩, g3⟩ := h'
  obtain ⟨c1, r1, r1'⟩ := sub_sc pc.sc pa.sc h1 g1 pc.r pa.r pc.r' pa.r' (by omega) (by omega) (by omega) (by omega) (by omega) (by omega)
  obtain ⟨c2, r2, r2'⟩ := sub_sc pd.sc pb.sc h2 g2 pd.r pb.r pd.r' pb.r' (by omega) (by omega) (by omega) (by omega) (by omega) (by omega)
  obtain ⟨c3, r3, r3'⟩ := mul_sc c1 c2 h3 g3 r1 r2 r1' r2' (by omega) (by omega) (by omega) (by omega)
  obtain ⟨t1, k1⟩ := scale_sc c3.1 c3.2.2.1 hs q r3 rs (by omega) (by omega) (by omega) (by omega)
  obtain ⟨t2, _⟩ := scale_sc t1.2.1 t1.2.2.2.1 hs q2 k1 rs (by omega) (by omega) (by omega) (by omega)
  rw [c3.unique (t1.two t2)]
  exact eq_self_fin t2.2.1
/-- one axis of a ray, all with a power of two -/
theorem rg_52 {a b x : Nat} (h : Rg a b x) (u : 52 ≤ a) : mg x = 0 ∨ 2 ^ 52 ≤ mg x := by
  rcases h with h | h
  · exact .inl h
  · exact .inr (pow_tr u h.1)
theorem sg_mg {x : Nat} (h : finK .f64 x = true) (g : ¬ sgK .f64 x = 0) : mg x ≠ 0 := by
  intro e
  apply g
  have z : rgK .f64 x = 0 := mg_zero.1 e
  have n0 : nanK .f64 0 = false := by decide +kernel
  have z0 : woK .f64 0 = 0 := by decide +kernel
  have w0 : woK .f64 x = 0 := (wo_zero .f64 x).2 z
  unfold sgK
  rw [lt_fin n0 (fin_num h), lt_fin (fin_num h) n0, z0, w0]
  rfl
theorem sc_ax {j low low' high high' frm frm' way way' s t s1 t1 s2 t2 : Nat} {b c : Bool} (pl : Pr j low low') (ph : Pr j high high') (pf : Pr j frm frm') (pw' : Pr j way way') (h : AxR low high frm way s t s1 t1 b) (g : AxR low' high' frm' way' s t s2 t2 c) : b = c ∧ (b = true → s1 = s2 ∧ t1 = t2) := by
  have g' : AxR low high frm way s t s2 t2 c := by
    unfold AxR at g ⊢
    rw [sc_sg pw'.sc, sc_le pl.sc pf.sc, sc_le pf.sc ph.sc] at g
    by_cases e : sgK .f64 way = 0
    · rw [if_pos e] at g ⊢
      exact g
    · rw [if_neg e] at g ⊢
      obtain ⟨d1, p, d2, q, g1, g2, g3, g4, g5⟩ := g
      have m := sg_mg pw'.sc.1 e
      have m' := sg_mg pw'.sc.2.1 (by rw [sc_sg pw'.sc]; exact e)
      have n52 : 2 ^ 52 ≤ mg way := (rg_52 pw'.r (by omega)).resolve_left m
      have n52' : 2 ^ 52 ≤ mg way' := (rg_52 pw'.r' (by omega)).resolve_left m'
      have f1 := dv_res (some_sub pl.sc.1 pf.sc.1 pf.sc.2.2.1)
      have f2 := dv_res (some_sub ph.sc.1 pf.sc.1 pf.sc.2.2.1)
      obtain ⟨c1, r1, r1'⟩ := sub_sc pl.sc pf.sc f1 g1 pl.r pf.r pl.r' pf.r' (by omega) (by omega) (by omega) (by omega) (by omega) (by omega)
      obtain ⟨c2, r2, r2'⟩ := sub_sc ph.sc pf.sc f2 g3 ph.r pf.r ph.r' pf.r' (by omega) (by omega) (by omega) (by omega) (by omega) (by omega)
      have both : ∀ {x x' : Nat}, Sc 100 j x x' → (mg x = 0 ∨ 2 ^ 52 ≤ mg x) → (mg x' = 0 ∨ 2 ^ 52 ≤ mg x') → mg x = 0 ∨ (2 ^ 52 ≤ mg x ∧ 2 ^ 52 ≤ mg x') := by
        intro x x' sc a b
        rcases a with a | a
        · exact .inl a
        · rcases b with b | b
          · exact .inl (sc.zero.1 b)
          · exact .inr ⟨a, b⟩
      have e1 := quo_same (a := 0) (b := 0) c1 pw'.sc (both c1 (rg_52 r1 (by omega)) (rg_52 r1' (by omega))) n52 n52'
      have e2 := quo_same (a := 0) (b := 0) c2 pw'.sc (both c2 (rg_52 r2 (by omega)) (rg_52 r2' (by omega))) n52 n52'
      refine ⟨_, p, _, q, f1, ?_, f2, ?_, g5⟩
      · unfold resK at g2 ⊢
        rw [← e1]
        exact g2
      · unfold resK at g4 ⊢
        rw [← e2]
        exact g4
  exact h.same g'
theorem ray_sc {j a a' b b' c c' d d' fx fx' fy fy' wx wx' wy wy' r r' : Nat} {o o' : Bool} (pa : Pr j a a') (pb : Pr j b b') (pc : Pr j c c') (pd : Pr j d d') (pfx : Pr j fx fx') (pfy : Pr j fy fy') (pwx : Pr j wx wx') (pwy : Pr j wy wy')
    (h : RayR a b c d fx fy wx wy r o) (g : RayR a' b' c' d' fx' fy' wx' wy' r' o') : o = o' ∧ r = r' := by
  obtain ⟨s1, t1, b1, h1, h2⟩ := h
  obtain ⟨s1', t1', b1', g1, g2⟩ := g
  obtain ⟨rfl, e⟩ := sc_ax pa pc pfx pwx h1 g1
  cases b1
  · simp at h2 g2
    rw [h2.1, g2.1, h2.2, g2.2]
    exact ⟨rfl, rfl⟩
  · rw [if_pos rfl] at h2 g2
    obtain ⟨rfl, rfl⟩ := e rfl
    obtain ⟨s2, t2, b2, h3, rfl, rfl⟩ := h2
    obtain ⟨s2', t2', b2', g3, rfl, rfl⟩ := g2
    obtain ⟨rfl, e⟩ := sc_ax pb pd pfy pwy h3 g3
    cases o
    · exact ⟨rfl, rfl⟩
    · obtain ⟨rfl, rfl⟩ := e rfl
      exact ⟨rfl, rfl⟩
theorem size_fin {j a a' b b' c c' d d' r : Nat} (pa : Pr j a a') (pb : Pr j b b') (pc : Pr j c c') (pd : Pr j d d') (h : SizeR a b c d r) : finK .f64 r = true := by
  obtain ⟨x, y, ⟨h1, h2⟩, h3⟩ := h
  have f1 := dv_res (some_sub pc.sc.2.1 pa.sc.2.1 pa.sc.2.2.2.1)
  have f2 := dv_res (some_sub pd.sc.2.1 pb.sc.2.1 pb.sc.2.2.2.1)
  obtain ⟨c1, r1, r1'⟩ := sub_sc pc.sc pa.sc h1 f1 pc.r pa.r pc.r' pa.r' (by omega) (by omega) (by omega) (by omega) (by omega) (by omega)
  obtain ⟨c2, r2, r2'⟩ := sub_sc pd.sc pb.sc h2 f2 pd.r pb.r pd.r' pb.r' (by omega) (by omega) (by omega) (by omega) (by omega) (by omega)
  obtain ⟨c3, _, _⟩ := add_sc c1 c2 h3 (dv_res (some_add c1.2.1 c2.2.1)) r1 r2 r1' r2' (by omega) (by omega) (by omega) (by omega) (by omega) (by omega)
  exact c3.1
theorem area_fin {j s a a' b b' c c' d d' r : Nat} (hs : Sc 100 j oneB s) (rs : Rg 974 1174 s) (fs : finK .f64 s = true) (pa : Pr j a a') (pb : Pr j b b') (pc : Pr j c c') (pd : Pr j d d') (h : AreaR a b c d r) : finK .f64 r = true ∧ finK .f64 (Dv .mul r s) = true := by
  obtain ⟨x, y, ⟨h1, h2⟩, h3⟩ := h
  have f1 := dv_res (some_sub pc.sc.2.1 pa.sc.2.1 pa.sc.2.2.2.1)
  have f2 := dv_res (some_sub pd.sc.2.1 pb.sc.2.1 pb.sc.2.2.2.1)
  obtain ⟨c1, r1, r1'⟩ := sub_sc pc.sc pa.sc h1 f1 pc.r pa.r pc.r' pa.r' (by omega) (by omega) (by omega) (by omega) (by omega) (by omega)
  obtain ⟨c2, r2, r2'⟩ := sub_sc pd.sc pb.sc h2 f2 pd.r pb.r pd.r' pb.r' (by omega) (by omega) (by omega) (by omega) (by omega) (by omega)
  obtain ⟨c3, r3, _⟩ := mul_sc c1 c2 h3 (dv_res (some_mul c1.2.1 c2.2.1)) r1 r2 r1' r2' (by omega) (by omega) (by omega) (by omega)
  obtain ⟨t1, _⟩ := scale_sc c3.1 c3.2.2.1 hs (dv_res (some_mul c3.1 fs)) r3 rs (by omega) (by omega) (by omega) (by omega)
  exact ⟨c3.1, t1.2.1⟩
theorem cutS_num {s p : Nat} (h : nanK .f64 s = false) : nanK .f64 (cutS s p) = false := by
  unfold cutS
  cases e : ltK .f64 s p
  · rw [if_neg (by decide)]; exact h
  · rw [if_pos rfl]
    unfold ltK at e
    cases n : nanK .f64 p
    · rfl
    · rw [n] at e; simp at e
theorem ax_num {low high frm way s t s1 t1 : Nat} (h : AxR low high frm way s t s1 t1 true) (n : nanK .f64 s = false) : nanK .f64 s1 = false := by
  unfold AxR at h
  by_cases e : sgK .f64 way = 0
  · rw [if_pos e] at h
    rw [h.1]; exact n
  · rw [if_neg e] at h
    obtain ⟨d1, p, d2, q, _, _, _, _, h⟩ := h
    cases k : (nanK .f64 p || nanK .f64 q) <;> rw [k] at h
    · rw [if_neg (by decide)] at h
      split at h
      · rw [h.1]; exact cutS_num n
      · rw [h.1]; exact cutS_num n
    · rw [if_pos rfl] at h; cases h
theorem ray_num {a b c d fx fy wx wy r : Nat} {o : Bool} (h : RayR a b c d fx fy wx wy r o) : nanK .f64 r = false := by
  have n0 : nanK .f64 0 = false := by decide +kernel
  obtain ⟨s1, t1, b1, h1, h2⟩ := h
  cases b1
  · simp at h2; rw [h2.2]; exact n0
  · rw [if_pos rfl] at h2
    obtain ⟨s2, t2, b2, h3, rfl, rfl⟩ := h2
    cases o
    · exact n0
    · exact ax_num h3 (ax_num h1 n0)
theorem eq_self_num {x : Nat} (h : nanK .f64 x = false) : eqK .f64 x x = true := by rw [eq_fin h h]; simp
end Go.Proofs.Ytdpbkfdccoogkab
