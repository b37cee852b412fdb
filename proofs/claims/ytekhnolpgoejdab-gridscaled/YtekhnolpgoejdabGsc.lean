/-
  Plain facts on floats, more: rounding to the nearest rung, sums and products of finite floats, signs turned. No program is named here.
-/
import Derived.Test.YtekhnolpgoejdabGpu
namespace Go.Proofs.Ytekhnolpgoejdab
open Ieee Go.RowKit
set_option linter.unusedSimpArgs false
set_option linter.unusedVariables false

theorem Sc.two {j r t u : Nat} (h : Sc 100 j r t) (g : Sc 100 j t u) : Sc (100 + 100) (j + j) r u := by
  obtain ⟨f1, f2, o1, o2, n1, m1⟩ := h
  obtain ⟨_, f3, _, o3, n2, m2⟩ := g
  refine ⟨f1, f3, o1, o3, n2.trans n1, ?_⟩
  rw [Nat.pow_add, Nat.pow_add]
  generalize 2 ^ 100 = A at *
  generalize 2 ^ j = B at *
  have : mg u * (A * A) = mg u * A * A := by grind
  rw [this, m2]
  have : mg t * B * A = mg t * A * B := by grind
  rw [this, m1]; grind

/-- a product of two parts, and of both so many times as great -/
theorem prod_of {j x y c d : Nat} (h : Sc 100 j x c) (g : Sc 100 j y d) (rx : Rg 874 1274 x) (ry : Rg 874 1274 y) (rc : Rg 774 1374 c) (rd : Rg 774 1374 d) :
    Sc (100 + 100) (j + j) (Dv .mul x y) (Dv .mul c d) ∧ Rg 674 1474 (Dv .mul x y) ∧ Rg 474 1674 (Dv .mul c d) := by
  obtain ⟨k1, k2, k3⟩ := mul_sc h g (dv_res (some_mul h.1 g.1)) (dv_res (some_mul h.2.1 g.2.1)) rx ry rc rd (by omega) (by omega) (by omega) (by omega)
  exact ⟨k1, Rg.wide k2 (by omega) (by omega), Rg.wide k3 (by omega) (by omega)⟩

/-- what the walk asks of a sum or difference of two products -/
structure Two (op : BinOp) (s p q p' q' : Nat) : Prop where
  f1 : finK .f64 p = true
  f2 : finK .f64 q = true
  f3 : finK .f64 p' = true
  f4 : finK .f64 q' = true
  fr : finK .f64 (Dv op p q) = true
  ft : finK .f64 (Dv .mul (Dv op p q) s) = true
  eq : Dv op p' q' = Dv .mul (Dv .mul (Dv op p q) s) s
  o1 : okK .f64 q
  o2 : okK .f64 q'

theorem two_add {s j p q p' q' : Nat} (os : okK .f64 s) (fs : finK .f64 s = true) (hs : Sc 100 j oneB s) (rs : Rg 974 1174 s)
    (h : Sc (100 + 100) (j + j) p p') (g : Sc (100 + 100) (j + j) q q') (rp : Rg 674 1474 p) (rq : Rg 674 1474 q) (rp' : Rg 474 1674 p') (rq' : Rg 474 1674 q') :
    Two .add s p q p' q' ∧ Sc (100 + 100) (j + j) (Dv .add p q) (Dv .add p' q') ∧ Rg 622 1475 (Dv .add p q) ∧ Rg 422 1675 (Dv .add p' q') := by
  obtain ⟨sr, gr, gr'⟩ := add_sc h g (dv_res (some_add h.1 g.1)) (dv_res (some_add h.2.1 g.2.1)) rp rq rp' rq' (by omega) (by omega) (by omega) (by omega) (by omega) (by omega)
  obtain ⟨t1, k1⟩ := scale_sc sr.1 sr.2.2.1 hs (dv_res (some_mul sr.1 fs)) gr rs (by omega) (by omega) (by omega) (by omega)
  obtain ⟨t2, _⟩ := scale_sc t1.2.1 t1.2.2.2.1 hs (dv_res (some_mul t1.2.1 fs)) k1 rs (by omega) (by omega) (by omega) (by omega)
  exact ⟨⟨h.1, g.1, h.2.1, g.2.1, sr.1, t1.2.1, sr.unique (t1.two t2), g.2.2.1, g.2.2.2.1⟩, sr, Rg.wide gr (by omega) (by omega), Rg.wide gr' (by omega) (by omega)⟩
theorem two_sub {s j p q p' q' : Nat} (os : okK .f64 s) (fs : finK .f64 s = true) (hs : Sc 100 j oneB s) (rs : Rg 974 1174 s)
    (h : Sc (100 + 100) (j + j) p p') (g : Sc (100 + 100) (j + j) q q') (rp : Rg 674 1474 p) (rq : Rg 674 1474 q) (rp' : Rg 474 1674 p') (rq' : Rg 474 1674 q') : Two .sub s p q p' q' := by
  obtain ⟨sr, gr, gr'⟩ := sub_sc h g (dv_res (some_sub h.1 g.1 g.2.2.1)) (dv_res (some_sub h.2.1 g.2.1 g.2.2.2.1)) rp rq rp' rq' (by omega) (by omega) (by omega) (by omega) (by omega) (by omega)
  obtain ⟨t1, k1⟩ := scale_sc sr.1 sr.2.2.1 hs (dv_res (some_mul sr.1 fs)) gr rs (by omega) (by omega) (by omega) (by omega)
  obtain ⟨t2, _⟩ := scale_sc t1.2.1 t1.2.2.2.1 hs (dv_res (some_mul t1.2.1 fs)) k1 rs (by omega) (by omega) (by omega) (by omega)
  exact ⟨h.1, g.1, h.2.1, g.2.1, sr.1, t1.2.1, sr.unique (t1.two t2), g.2.2.1, g.2.2.2.1⟩

/-- the root as a function -/
def Sq (x : Nat) : Nat := (FloatKind.f64.format.sqrt x).getD 0
theorem sqr_zero {r n : Nat} (hf : finK .f64 r = true) (hn : ngK .f64 r = false) (hz : mg r = 0) (h : sqR r n) : n = 0 := by
  obtain ⟨m, p, e, hv, _⟩ := read_num64 r hf
  have hm : m = 0 := by
    rw [hz] at hv
    exact (Nat.mul_eq_zero.1 hv).resolve_right (Nat.ne_of_gt (Nat.two_pow_pos _))
  have e1 : FloatKind.f64.format.sqrt r = some (FloatKind.f64.format.word false 0) := by
    unfold Format.sqrt
    rw [e, hn, hm]
    unfold Datum.root
    simp only [if_true, Option.map_some, Format.write]
    unfold Format.nearest
    simp
  rw [sq_is h e1]
  rfl
theorem sqr_some {r : Nat} (hf : finK .f64 r = true) (hn : ngK .f64 r = false) : (FloatKind.f64.format.sqrt r).isSome = true := by
  by_cases hz : mg r = 0
  · obtain ⟨m, p, e, hv, _⟩ := read_num64 r hf
    have hm : m = 0 := by
      rw [hz] at hv
      exact (Nat.mul_eq_zero.1 hv).resolve_right (Nat.ne_of_gt (Nat.two_pow_pos _))
    unfold Format.sqrt
    rw [e, hn, hm]
    unfold Datum.root
    simp
  · obtain ⟨_, _, _, _, _, e, _⟩ := root_near hf hn hz
    rw [e]; rfl
theorem sq_res {r : Nat} (g : (FloatKind.f64.format.sqrt r).isSome = true) : sqR r (Sq r) := by
  obtain ⟨v, hv⟩ := Option.isSome_iff_exists.1 g
  unfold Sq
  rw [hv]
  exact ⟨sqrt_ok hv, .inl hv⟩
theorem sqR_is {r n : Nat} (h : sqR r n) (g : (FloatKind.f64.format.sqrt r).isSome = true) : n = Sq r := by
  obtain ⟨v, hv⟩ := Option.isSome_iff_exists.1 g
  unfold Sq
  rw [hv]
  exact sq_is h hv

/-- lengths: of a way and of one so many times as long -/
theorem len_of {s j r r' : Nat} (os : okK .f64 s) (fs : finK .f64 s = true) (hs : Sc 100 j oneB s) (rs : Rg 974 1174 s) (h : Sc (100 + 100) (j + j) r r') (nr : ngK .f64 r = false) (g : Rg 622 1475 r) (g' : Rg 422 1675 r') :
    (mg r = 0 ∧ mg r' = 0 ∧ Sq r = 0 ∧ Sq r' = 0 ∧ Dv .mul 0 s = 0) ∨ (2 ^ 52 ≤ mg (Sq r) ∧ 2 ^ 52 ≤ mg (Sq r') ∧ Sc 100 j (Sq r) (Sq r') ∧ Sq r' = Dv .mul (Sq r) s ∧ ngK .f64 (Sq r) = false) := by
  have nr' : ngK .f64 r' = false := h.2.2.2.2.1.trans nr
  have q1 := sq_res (sqr_some h.1 nr)
  have q2 := sq_res (sqr_some h.2.1 nr')
  rcases g with g | g
  · have z' := (h.zero).2 g
    refine .inl ⟨g, z', sqr_zero h.1 nr g q1, sqr_zero h.2.1 nr' z' q2, ?_⟩
    have f0 : finK .f64 0 = true := by decide +kernel
    rw [dv_some (mul_spec 0 s f0 fs)]
    have m0 : vl FloatKind.f64.format (rgK .f64 0) = 0 := by rw [nought_rg, vl_zero]
    rw [m0, Nat.zero_mul, rr_zero, Nat.zero_min]
    have : ngK .f64 s = false := by rw [hs.2.2.2.2.1, one_ng]
    rw [this, nought_ng]
    rfl
  · have g' := g'.resolve_left (fun z => by
      have := (h.zero).1 z
      have := ne_of_pow g.1
      omega)
    have h2 : Sc (2 * 100) (2 * j) r r' := by
      have e : j + j = 2 * j := by omega
      rw [← e]; exact h
    obtain ⟨sn, gn, gn'⟩ := root_sc h2 nr (pow_tr (by omega) g.1) (pow_tr (by omega) g'.1) q1 q2
    obtain ⟨tn, _⟩ := scale_sc sn.1 sn.2.2.1 hs (dv_res (some_mul sn.1 fs)) gn rs (by omega) (by omega) (by omega) (by omega)
    have f0 := root_fin h.1 nr (ne_of_pow g.1) q1
    have f0' := root_fin h.2.1 nr' (ne_of_pow g'.1) q2
    have l1 : 2 ^ 52 ≤ mg (Sq r) := pow_tr (show 52 ≤ 500 by omega) (gn.resolve_left f0.2.2.1).1
    have l2 : 2 ^ 52 ≤ mg (Sq r') := pow_tr (show 52 ≤ 500 by omega) (gn'.resolve_left f0'.2.2.1).1
    exact .inr ⟨l1, l2, sn, sn.unique tn, f0.2.1⟩
end Go.Proofs.Ytekhnolpgoejdab
namespace Go.Proofs.Ytekhnolpgoejdab
open Ieee Go.RowKit
set_option linter.unusedSimpArgs false

/-! ### Boxes with a power of two -/
theorem sc_rg {i j x x' y y' : Nat} (h : Sc i j x x') (g : Sc i j y y') : rgK .f64 x' ≤ rgK .f64 y' ↔ rgK .f64 x ≤ rgK .f64 y := by
  rw [← mg_rg, ← mg_rg]
  have e1 := h.2.2.2.2.2
  have e2 := g.2.2.2.2.2
  have p1 := Nat.two_pow_pos i
  have p2 := Nat.two_pow_pos j
  constructor
  · intro k
    have := Nat.mul_le_mul_right (2 ^ i) k
    rw [e1, e2] at this
    exact Nat.le_of_mul_le_mul_right this p2
  · intro k
    have := Nat.mul_le_mul_right (2 ^ j) k
    rw [← e1, ← e2] at this
    exact Nat.le_of_mul_le_mul_right this p1
theorem sc_rg0 {i j x x' : Nat} (h : Sc i j x x') : rgK .f64 x' = 0 ↔ rgK .f64 x = 0 := by
  rw [← mg_zero, ← mg_zero]; exact h.zero
theorem sc_wo {i j x x' y y' : Nat} (h : Sc i j x x') (g : Sc i j y y') : woK .f64 x' ≤ woK .f64 y' ↔ woK .f64 x ≤ woK .f64 y := by
  have a := sc_rg h g
  have b := sc_rg g h
  have c := sc_rg0 h
  have d := sc_rg0 g
  rw [woK_eq, woK_eq, woK_eq, woK_eq, h.2.2.2.2.1, g.2.2.2.2.1]
  cases ngK .f64 x <;> cases ngK .f64 y <;> simp <;> omega
theorem sc_le {i j x x' y y' : Nat} (h : Sc i j x x') (g : Sc i j y y') : leK .f64 x' y' = leK .f64 x y := by
  rw [le_fin (fin_num h.1) (fin_num g.1), le_fin (fin_num h.2.1) (fin_num g.2.1)]
  exact decide_eq_decide.2 (sc_wo h g)
theorem sc_lt {i j x x' y y' : Nat} (h : Sc i j x x') (g : Sc i j y y') : ltK .f64 x' y' = ltK .f64 x y := by
  rw [lt_fin (fin_num h.1) (fin_num g.1), lt_fin (fin_num h.2.1) (fin_num g.2.1)]
  have := sc_wo g h
  exact decide_eq_decide.2 (by omega)
theorem sc_lt0 {i j x x' : Nat} (h : Sc i j x x') : ltK .f64 x' 0 = ltK .f64 x 0 ∧ ltK .f64 0 x' = ltK .f64 0 x := by
  have n0 : nanK .f64 0 = false := by decide +kernel
  have z : woK .f64 0 = 0 := by decide +kernel
  rw [lt_fin (fin_num h.1) n0, lt_fin (fin_num h.2.1) n0, lt_fin n0 (fin_num h.1), lt_fin n0 (fin_num h.2.1), z]
  have c := sc_rg0 h
  rw [woK_eq, woK_eq, h.2.2.2.2.1]
  constructor <;> apply decide_eq_decide.2 <;> cases ngK .f64 x <;> simp <;> omega
theorem sc_sg {i j x x' : Nat} (h : Sc i j x x') : sgK .f64 x' = sgK .f64 x := by
  unfold sgK
  rw [(sc_lt0 h).1, (sc_lt0 h).2]
theorem sc_mz {i j x x' : Nat} (h : Sc i j x x') : mzK .f64 x' = mzK .f64 x := by
  unfold mzK
  rw [h.2.2.2.2.1, decide_eq_decide.2 (sc_rg0 h)]
/-- a float of a middling size, and its double by the power -/
structure Pr (j x x' : Nat) : Prop where
  sc : Sc 100 j x x'
  r : Rg 874 1274 x
  r' : Rg 774 1374 x'
theorem pr_of {j s x x' : Nat} (hs : Sc 100 j oneB s) (rs : Rg 974 1174 s) (o : okK .f64 x) (p : plB x = true) (h : resK .mul .f64 x s x') : Pr j x x' := by
  obtain ⟨f, r⟩ := plain_rg o p
  obtain ⟨c, g⟩ := scale_sc f o hs h r rs (by omega) (by omega) (by omega) (by omega)
  exact ⟨c, r, Rg.wide g (by omega) (by omega)⟩
theorem sc_least {i j x x' y y' : Nat} (h : Sc i j x x') (g : Sc i j y y') : leastK .f64 x' y' = (if nanK .f64 x || ltK .f64 y x || mzK .f64 y && decide (rgK .f64 x = 0) then y' else x') := by
  unfold leastK
  rw [fin_num h.1, fin_num h.2.1, sc_lt g h, sc_mz g, decide_eq_decide.2 (sc_rg0 h)]
theorem sc_most {i j x x' y y' : Nat} (h : Sc i j x x') (g : Sc i j y y') : mostK .f64 x' y' = (if nanK .f64 x || ltK .f64 x y || mzK .f64 x && decide (rgK .f64 y = 0) then y' else x') := by
  unfold mostK
  rw [fin_num h.1, fin_num h.2.1, sc_lt h g, sc_mz h, decide_eq_decide.2 (sc_rg0 g)]
theorem pr_least {j x x' y y' : Nat} (h : Pr j x x') (g : Pr j y y') : Pr j (leastK .f64 x y) (leastK .f64 x' y') := by
  rw [sc_least h.sc g.sc]
  unfold leastK
  split <;> assumption
theorem pr_most {j x x' y y' : Nat} (h : Pr j x x') (g : Pr j y y') : Pr j (mostK .f64 x y) (mostK .f64 x' y') := by
  rw [sc_most h.sc g.sc]
  unfold mostK
  split <;> assumption
theorem pr_zero {j : Nat} : Pr j 0 0 := by
  have z : mg 0 = 0 := by decide +kernel
  refine ⟨⟨by decide +kernel, by decide +kernel, by rw [okK64]; decide, by rw [okK64]; decide, rfl, by rw [z]; simp⟩, .inl z, .inl z⟩
/-- the power once more: what is handed on is the same float -/
theorem pr_times {j s x x' t : Nat} (hs : Sc 100 j oneB s) (rs : Rg 974 1174 s) (h : Pr j x x') (ht : resK .mul .f64 x s t) : t = x' := by
  obtain ⟨c, _⟩ := scale_sc h.sc.1 h.sc.2.2.1 hs ht h.r rs (by omega) (by omega) (by omega) (by omega)
  exact c.unique h.sc
theorem times_sc {j s z z' t a b : Nat} (hs : Sc 100 j oneB s) (rs : Rg 974 1174 s) (h : Sc 100 j z z') (r : Rg a b z) (ht : resK .mul .f64 z s t) (u1 : 152 ≤ a) (u3 : b ≤ 1900) : t = z' := by
  obtain ⟨c, _⟩ := scale_sc h.1 h.2.2.1 hs ht r rs (by omega) (by omega) (by omega) (by omega)
  exact c.unique h
theorem pr_over {j a a' b b' c c' d d' e e' f f' g g' h h' : Nat} (pa : Pr j a a') (pb : Pr j b b') (pc : Pr j c c') (pd : Pr j d d') (pe : Pr j e e') (pf : Pr j f f') (pg : Pr j g g') (ph : Pr j h h') :
    bOver a' b' c' d' e' f' g' h' = bOver a b c d e f g h ∧ bIn a' b' c' d' e' f' g' h' = bIn a b c d e f g h := by
  unfold bOver bIn
  rw [sc_le pa.sc pg.sc, sc_le pe.sc pc.sc, sc_le pb.sc ph.sc, sc_le pf.sc pd.sc, sc_le pe.sc pa.sc, sc_le pc.sc pg.sc, sc_le pf.sc pb.sc, sc_le pd.sc ph.sc]
  exact ⟨rfl, rfl⟩
theorem pr_has {j a a' b b' c c' d d' x x' y y' : Nat} (pa : Pr j a a') (pb : Pr j b b') (pc : Pr j c c') (pd : Pr j d d') (px : Pr j x x') (py : Pr j y y') : bHas a' b' c' d' x' y' = bHas a b c d x y := by
  unfold bHas
  rw [sc_le pa.sc px.sc, sc_le px.sc pc.sc, sc_le pb.sc py.sc, sc_le py.sc pd.sc]
theorem pr_chk {j a a' b b' c c' d d' : Nat} (pa : Pr j a a') (pb : Pr j b b') (pc : Pr j c c') (pd : Pr j d d') : bChk a' b' c' d' = bChk a b c d := by
  unfold bChk bFin
  rw [sc_lt pc.sc pa.sc, sc_lt pd.sc pb.sc, pa.sc.1, pb.sc.1, pc.sc.1, pd.sc.1, pa.sc.2.1, pb.sc.2.1, pc.sc.2.1, pd.sc.2.1]
theorem pr_st {j s low low' high high' way way' l h l' h' tl th : Nat} (hs : Sc 100 j oneB s) (rs : Rg 974 1174 s) (pl : Pr j low low') (ph : Pr j high high') (pw' : Pr j way way') (p : StR low high way l h) (p' : StR low' high' way' l' h') (ql : resK .mul .f64 l s tl) (qh : resK .mul .f64 h s th) : l' = tl ∧ h' = th := by
  unfold StR at p p'
  rw [(sc_lt0 pw'.sc).1] at p'
  cases e : ltK .f64 way 0 <;> rw [e] at p p' <;> simp at p p'
  · obtain ⟨rfl, p⟩ := p
    obtain ⟨rfl, p'⟩ := p'
    obtain ⟨c, g, _⟩ := add_sc ph.sc pw'.sc p p' ph.r pw'.r ph.r' pw'.r' (by omega) (by omega) (by omega) (by omega) (by omega) (by omega)
    exact ⟨(pr_times hs rs pl ql).symm, (times_sc hs rs c g qh (by omega) (by omega)).symm⟩
  · obtain ⟨p, rfl⟩ := p
    obtain ⟨p', rfl⟩ := p'
    obtain ⟨c, g, _⟩ := add_sc pl.sc pw'.sc p p' pl.r pw'.r pl.r' pw'.r' (by omega) (by omega) (by omega) (by omega) (by omega) (by omega)
    exact ⟨(times_sc hs rs c g ql (by omega) (by omega)).symm, (pr_times hs rs ph qh).symm⟩
theorem pr_three {j s m : Nat} (hs : Sc 100 j oneB s) (rs : Rg 974 1174 s) (h : resK .mul .f64 threeB s m) : Pr j threeB m := by
  obtain ⟨c, g⟩ := scale_sc three_fin three_ok hs h three_mg rs (by omega) (by omega) (by omega) (by omega)
  exact ⟨c, Rg.wide three_mg (by omega) (by omega), Rg.wide g (by omega) (by omega)⟩
theorem pr_sub {j s x x' y y' z z' t : Nat} (hs : Sc 100 j oneB s) (rs : Rg 974 1174 s) (px : Pr j x x') (py : Pr j y y') (h : resK .sub .f64 x y z) (h' : resK .sub .f64 x' y' z') (q : resK .mul .f64 z s t) : z' = t := by
  obtain ⟨c, g, _⟩ := sub_sc px.sc py.sc h h' px.r py.r px.r' py.r' (by omega) (by omega) (by omega) (by omega) (by omega) (by omega)
  exact (times_sc hs rs c g q (by omega) (by omega)).symm
theorem pr_add {j s x x' y y' z z' t : Nat} (hs : Sc 100 j oneB s) (rs : Rg 974 1174 s) (px : Pr j x x') (py : Pr j y y') (h : resK .add .f64 x y z) (h' : resK .add .f64 x' y' z') (q : resK .mul .f64 z s t) : z' = t := by
  obtain ⟨c, g, _⟩ := add_sc px.sc py.sc h h' px.r py.r px.r' py.r' (by omega) (by omega) (by omega) (by omega) (by omega) (by omega)
  exact (times_sc hs rs c g q (by omega) (by omega)).symm
theorem eq_self_fin {x : Nat} (h : finK .f64 x = true) : eqK .f64 x x = true := by rw [eq_fin (fin_num h) (fin_num h)]; simp
theorem pr_size {j s a a' b b' c c' d d' r r' t : Nat} (hs : Sc 100 j oneB s) (rs : Rg 974 1174 s) (pa : Pr j a a') (pb : Pr j b b') (pc : Pr j c c') (pd : Pr j d d') (h : SizeR a b c d r) (h' : SizeR a' b' c' d' r') (q : resK .mul .f64 r s t) : eqK .f64 r' t = true := by
  obtain ⟨x, y, ⟨h1, h2⟩, h3⟩ := h
  obtain ⟨x', y', ⟨g1, g2⟩, g3⟩ := h'
  obtain ⟨c1, r1, r1'⟩ := sub_sc pc.sc pa.sc h1 g1 pc.r pa.r pc.r' pa.r' (by omega) (by omega) (by omega) (by omega) (by omega) (by omega)
  obtain ⟨c2, r2, r2'⟩ := sub_sc pd.sc pb.sc h2 g2 pd.r pb.r pd.r' pb.r' (by omega) (by omega) (by omega) (by omega) (by omega) (by omega)
  obtain ⟨c3, r3, _⟩ := add_sc c1 c2 h3 g3 r1 r2 r1' r2' (by omega) (by omega) (by omega) (by omega) (by omega) (by omega)
  rw [times_sc hs rs c3 r3 q (by omega) (by omega)]
  exact eq_self_fin c3.2.1
theorem pr_area {j s a a' b b' c c' d d' r r' t u : Nat} (hs : Sc 100 j oneB s) (rs : Rg 974 1174 s) (pa : Pr j a a') (pb : Pr j b b') (pc : Pr j c c') (pd : Pr j d d') (h : AreaR a b c d r) (h' : AreaR a' b' c' d' r') (q : resK .mul .f64 r s t) (q2 : resK .mul .f64 t s u) : eqK .f64 r' u = true := by
  obtain ⟨x, y, ⟨h1, h2⟩, h3⟩ := h
  obtain ⟨x', y', ⟨g1, g2⟩, g3⟩ := h'
  obtain ⟨c1, r1, r1'⟩ := sub_sc pc.sc pa.sc h1 g1 pc.r pa.r pc.r' pa.r' (by omega) (by omega) (by omega) (by omega) (by omega) (by omega)
  obtain ⟨c2, r2, r2'⟩ := sub_sc pd.sc pb.sc h2 g2 pd.r pb.r pd.r' pb.r' (by omega) (by omega) (by omega) (by omega) (by omega) (by omega)
  obtain ⟨c3, r3, r3'⟩ := mul_sc c1 c2 h3 g3 r1 r2 r1' r2' (by omega) (by omega) (by omega) (by omega)
  obtain ⟨t1, k1⟩ := scale_sc c3.1 c3.2.2.1 hs q r3 rs (by omega) (by omega) (by omega) (by omega)
  obtain ⟨t2, _⟩ := scale_sc t1.2.1 t1.2.2.2.1 hs q2 k1 rs (by omega) (by omega) (by omega) (by omega)
  rw [c3.unique (t1.two t2)]
  exact eq_self_fin t2.2.1
/-- one axis of a ray, all with a power of two -/
theorem rg_52 {a b x : Nat} (h : Rg a b x) (u : 52 ≤ a) : mg x = 0 ∨ 2 ^ 52 ≤ mg x := by
  rcases h with h | h
  · exact .inl h
  · exact .inr (pow_tr u h.1)
theorem sg_mg {x : Nat} (h : finK .f64 x = true) (g : ¬ sgK .f64 x = 0) : mg x ≠ 0 := by
  intro e
  apply g
  have z : rgK .f64 x = 0 := mg_zero.1 e
  have n0 : nanK .f64 0 = false := by decide +kernel
  have z0 : woK .f64 0 = 0 := by decide +kernel
  have w0 : woK .f64 x = 0 := (wo_zero .f64 x).2 z
  unfold sgK
  rw [lt_fin n0 (fin_num h), lt_fin (fin_num h) n0, z0, w0]
  rfl
theorem sc_ax {j low low' high high' frm frm' way way' s t s1 t1 s2 t2 : Nat} {b c : Bool} (pl : Pr j low low') (ph : Pr j high high') (pf : Pr j frm frm') (pw' : Pr j way way') (h : AxR low high frm way s t s1 t1 b) (g : AxR low' high' frm' way' s t s2 t2 c) : b = c ∧ (b = true → s1 = s2 ∧ t1 = t2) := by
  have g' : AxR low high frm way s t s2 t2 c := by
    unfold AxR at g ⊢
    rw [sc_sg pw'.sc, sc_le pl.sc pf.sc, sc_le pf.sc ph.sc] at g
    by_cases e : sgK .f64 way = 0
    · rw [if_pos e] at g ⊢
      exact g
    · rw [if_neg e] at g ⊢
      obtain ⟨d1, p, d2, q, g1, g2, g3, g4, g5⟩ := g
      have m := sg_mg pw'.sc.1 e
      have m' := sg_mg pw'.sc.2.1 (by rw [sc_sg pw'.sc]; exact e)
      have n52 : 2 ^ 52 ≤ mg way := (rg_52 pw'.r (by omega)).resolve_left m
      have n52' : 2 ^ 52 ≤ mg way' := (rg_52 pw'.r' (by omega)).resolve_left m'
      have f1 := dv_res (some_sub pl.sc.1 pf.sc.1 pf.sc.2.2.1)
      have f2 := dv_res (some_sub ph.sc.1 pf.sc.1 pf.sc.2.2.1)
      obtain ⟨c1, r1, r1'⟩ := sub_sc pl.sc pf.sc f1 g1 pl.r pf.r pl.r' pf.r' (by omega) (by omega) (by omega) (by omega) (by omega) (by omega)
      obtain ⟨c2, r2, r2'⟩ := sub_sc ph.sc pf.sc f2 g3 ph.r pf.r ph.r' pf.r' (by omega) (by omega) (by omega) (by omega) (by omega) (by omega)
      have both : ∀ {x x' : Nat}, Sc 100 j x x' → (mg x = 0 ∨ 2 ^ 52 ≤ mg x) → (mg x' = 0 ∨ 2 ^ 52 ≤ mg x') → mg x = 0 ∨ (2 ^ 52 ≤ mg x ∧ 2 ^ 52 ≤ mg x') := by
        intro x x' sc a b
        rcases a with a | a
        · exact .inl a
        · rcases b with b | b
          · exact .inl (sc.zero.1 b)
          · exact .inr ⟨a, b⟩
      have e1 := quo_same (a := 0) (b := 0) c1 pw'.sc (both c1 (rg_52 r1 (by omega)) (rg_52 r1' (by omega))) n52 n52'
      have e2 := quo_same (a := 0) (b := 0) c2 pw'.sc (both c2 (rg_52 r2 (by omega)) (rg_52 r2' (by omega))) n52 n52'
      refine ⟨_, p, _, q, f1, ?_, f2, ?_, g5⟩
      · unfold resK at g2 ⊢
        rw [← e1]
        exact g2
      · unfold resK at g4 ⊢
        rw [← e2]
        exact g4
  exact h.same g'
theorem ray_sc {j a a' b b' c c' d d' fx fx' fy fy' wx wx' wy wy' r r' : Nat} {o o' : Bool} (pa : Pr j a a') (pb : Pr j b b') (pc : Pr j c c') (pd : Pr j d d') (pfx : Pr j fx fx') (pfy : Pr j fy fy') (pwx : Pr j wx wx') (pwy : Pr j wy wy')
    (h : RayR a b c d fx fy wx wy r o) (g : RayR a' b' c' d' fx' fy' wx' wy' r' o') : o = o' ∧ r = r' := by
  obtain ⟨s1, t1, b1, h1, h2⟩ := h
  obtain ⟨s1', t1', b1', g1, g2⟩ := g
  obtain ⟨rfl, e⟩ := sc_ax pa pc pfx pwx h1 g1
  cases b1
  · simp at h2 g2
    rw [h2.1, g2.1, h2.2, g2.2]
    exact ⟨rfl, rfl⟩
  · rw [if_pos rfl] at h2 g2
    obtain ⟨rfl, rfl⟩ := e rfl
    obtain ⟨s2, t2, b2, h3, rfl, rfl⟩ := h2
    obtain ⟨s2', t2', b2', g3, rfl, rfl⟩ := g2
    obtain ⟨rfl, e⟩ := sc_ax pb pd pfy pwy h3 g3
    cases o
    · exact ⟨rfl, rfl⟩
    · obtain ⟨rfl, rfl⟩ := e rfl
      exact ⟨rfl, rfl⟩
theorem size_fin {j a a' b b' c c' d d' r : Nat} (pa : Pr j a a') (pb : Pr j b b') (pc : Pr j c c') (pd : Pr j d d') (h : SizeR a b c d r) : finK .f64 r = true := by
  obtain ⟨x, y, ⟨h1, h2⟩, h3⟩ := h
  have f1 := dv_res (some_sub pc.sc.2.1 pa.sc.2.1 pa.sc.2.2.2.1)
  have f2 := dv_res (some_sub pd.sc.2.1 pb.sc.2.1 pb.sc.2.2.2.1)
  obtain ⟨c1, r1, r1'⟩ := sub_sc pc.sc pa.sc h1 f1 pc.r pa.r pc.r' pa.r' (by omega) (by omega) (by omega) (by omega) (by omega) (by omega)
  obtain ⟨c2, r2, r2'⟩ := sub_sc pd.sc pb.sc h2 f2 pd.r pb.r pd.r' pb.r' (by omega) (by omega) (by omega) (by omega) (by omega) (by omega)
  obtain ⟨c3, _, _⟩ := add_sc c1 c2 h3 (dv_res (some_add c1.2.1 c2.2.1)) r1 r2 r1' r2' (by omega) (by omega) (by omega) (by omega) (by omega) (by omega)
  exact c3.1
theorem area_fin {j s a a' b b' c c' d d' r : Nat} (hs : Sc 100 j oneB s) (rs : Rg 974 1174 s) (fs : finK .f64 s = true) (pa : Pr j a a') (pb : Pr j b b') (pc : Pr j c c') (pd : Pr j d d') (h : AreaR a b c d r) : finK .f64 r = true ∧ finK .f64 (Dv .mul r s) = true := by
  obtain ⟨x, y, ⟨h1, h2⟩, h3⟩ := h
  have f1 := dv_res (some_sub pc.sc.2.1 pa.sc.2.1 pa.sc.2.2.2.1)
  have f2 := dv_res (some_sub pd.sc.2.1 pb.sc.2.1 pb.sc.2.2.2.1)
  obtain ⟨c1, r1, r1'⟩ := sub_sc pc.sc pa.sc h1 f1 pc.r pa.r pc.r' pa.r' (by omega) (by omega) (by omega) (by omega) (by omega) (by omega)
  obtain ⟨c2, r2, r2'⟩ := sub_sc pd.sc pb.sc h2 f2 pd.r pb.r pd.r' pb.r' (by omega) (by omega) (by omega) (by omega) (by omega) (by omega)
  obtain ⟨c3, r3, _⟩ := mul_sc c1 c2 h3 (dv_res (some_mul c1.2.1 c2.2.1)) r1 r2 r1' r2' (by omega) (by omega) (by omega) (by omega)
  obtain ⟨t1, _⟩ := scale_sc c3.1 c3.2.2.1 hs (dv_res (some_mul c3.1 fs)) r3 rs (by omega) (by omega) (by omega) (by omega)
  exact ⟨c3.1, t1.2.1⟩
theorem cutS_num {s p : Nat} (h : nanK .f64 s = false) : nanK .f64 (cutS s p) = false := by
  unfold cutS
  cases e : ltK .f64 s p
  · rw [if_neg (by decide)]; exact h
  · rw [if_pos rfl]
    unfold ltK at e
    cases n : nanK .f64 p
    · rfl
    · rw [n] at e; simp at e
theorem ax_num {low high frm way s t s1 t1 : Nat} (h : AxR low high frm way s t s1 t1 true) (n : nanK .f64 s = false) : nanK .f64 s1 = false := by
  unfold AxR at h
  by_cases e : sgK .f64 way = 0
  · rw [if_pos e] at h
    rw [h.1]; exact n
  · rw [if_neg e] at h
    obtain ⟨d1, p, d2, q, _, _, _, _, h⟩ := h
    cases k : (nanK .f64 p || nanK .f64 q) <;> rw [k] at h
    · rw [if_neg (by decide)] at h
      split at h
      · rw [h.1]; exact cutS_num n
      · rw [h.1]; exact cutS_num n
    · rw [if_pos rfl] at h; cases h
theorem ray_num {a b c d fx fy wx wy r : Nat} {o : Bool} (h : RayR a b c d fx fy wx wy r o) : nanK .f64 r = false := by
  have n0 : nanK .f64 0 = false := by decide +kernel
  obtain ⟨s1, t1, b1, h1, h2⟩ := h
  cases b1
  · simp at h2; rw [h2.2]; exact n0
  · rw [if_pos rfl] at h2
    obtain ⟨s2, t2, b2, h3, rfl, rfl⟩ := h2
    cases o
    · exact n0
    · exact ax_num h3 (ax_num h1 n0)
theorem eq_self_num {x : Nat} (h : nanK .f64 x = false) : eqK .f64 x x = true := by rw [eq_fin h h]; simp
end Go.Proofs.Ytekhnolpgoejdab
namespace Go.Proofs.Ytekhnolpgoejdab
open Ieee Go.RowKit
set_option linter.unusedSimpArgs false
set_option linter.unusedVariables false

/-! ### Boxes so many times as great (GridScaled) -/
theorem ratW_all : (List.range 71).all (fun k => (decide (mg (wdW k) = 2 ^ (1044 + k)) && finK .f64 (wdW k) && !ngK .f64 (wdW k) && decide (wdW k < 18446744073709551616))) = true := by decide +kernel
theorem wd_mgS {k : Nat} (h : k ≤ 70) : mg (wdW k) = 2 ^ (1044 + k) ∧ finK .f64 (wdW k) = true ∧ ngK .f64 (wdW k) = false ∧ okK .f64 (wdW k) := by
  have := List.all_eq_true.1 ratW_all k (List.mem_range.2 (by omega))
  simp only [Bool.and_eq_true, decide_eq_true_eq, Bool.not_eq_true'] at this
  exact ⟨this.1.1.1, this.1.1.2, this.1.2, by rw [okK64]; exact this.2⟩
theorem pwW_all : (List.range 17).all (fun n => (decide (mg (pw ((n : Int) - 8)) * 2 ^ 100 = mg oneB * 2 ^ (92 + n)) && finK .f64 (pw ((n : Int) - 8)) && !ngK .f64 (pw ((n : Int) - 8)) && decide (pw ((n : Int) - 8) < 18446744073709551616) && decide (2 ^ 974 ≤ mg (pw ((n : Int) - 8))) && decide (mg (pw ((n : Int) - 8)) ≤ 2 ^ 1174))) = true := by decide +kernel
theorem one_facts : finK .f64 oneB = true ∧ okK .f64 oneB ∧ ngK .f64 oneB = false := ⟨by decide +kernel, by rw [okK64]; decide, by decide +kernel⟩
theorem pw_sc8 {n : Nat} (h : n ≤ 16) : Sc 100 (92 + n) oneB (pw ((n : Int) - 8)) ∧ Rg 974 1174 (pw ((n : Int) - 8)) ∧ finK .f64 (pw ((n : Int) - 8)) = true ∧ okK .f64 (pw ((n : Int) - 8)) := by
  have := List.all_eq_true.1 pwW_all n (List.mem_range.2 (by omega))
  simp only [Bool.and_eq_true, decide_eq_true_eq, Bool.not_eq_true'] at this
  obtain ⟨⟨⟨⟨⟨h1, h2⟩, h3⟩, h4⟩, h5⟩, h6⟩ := this
  have o : okK .f64 (pw ((n : Int) - 8)) := by rw [okK64]; exact h4
  exact ⟨⟨one_facts.1, h2, one_facts.2.1, o, h3.trans one_facts.2.2.symm, h1⟩, .inr ⟨h5, h6⟩, h2, o⟩
theorem wd_sc {n k m : Nat} (hk : k ≤ 70) (hm : m ≤ 70) (e : m + 8 = k + n) : Sc 100 (92 + n) (wdW k) (wdW m) := by
  obtain ⟨a1, a2, a3, a4⟩ := wd_mgS hk
  obtain ⟨b1, b2, b3, b4⟩ := wd_mgS hm
  refine ⟨a2, b2, a4, b4, b3.trans a3.symm, ?_⟩
  rw [a1, b1, ← Nat.pow_add, ← Nat.pow_add]
  congr 1
  omega
theorem wd_times_all : (List.range 71).all (fun k => (List.range 17).all fun n => decide (k + n < 8) || decide (78 < k + n) || (floatBits .mul .f64 (wdW k) (pw ((n : Int) - 8)) == some (wdW (k + n - 8)))) = true := by decide +kernel
theorem wd_times {k n m : Nat} (hk : k ≤ 70) (hn : n ≤ 16) (hm : m ≤ 70) (e : m + 8 = k + n) : floatBits .mul .f64 (wdW k) (pw ((n : Int) - 8)) = some (wdW m) := by
  have h := List.all_eq_true.1 wd_times_all k (List.mem_range.2 (by omega))
  have h := List.all_eq_true.1 h n (List.mem_range.2 (by omega))
  rw [decide_eq_false (by omega), decide_eq_false (by omega), Bool.false_or, Bool.false_or] at h
  have := eq_of_beq h
  rw [this]
  congr 2
  omega
theorem wd_up_all : (List.range 70).all (fun k => decide (rkK (wdW k) < rkK (wdW (k + 1)))) = true := by decide +kernel
theorem wd_up : ∀ {a d : Nat}, a + d ≤ 70 → rkK (wdW a) ≤ rkK (wdW (a + d))
  | a, 0, h => Int.le_refl _
  | a, d + 1, h => by
    have h1 := wd_up (a := a) (d := d) (by omega)
    have h2 := List.all_eq_true.1 wd_up_all (a + d) (List.mem_range.2 (by omega))
    have h2 := of_decide_eq_true h2
    have e : a + (d + 1) = a + d + 1 := by omega
    rw [e]
    omega
theorem lw_spec (z : Int) : ∀ {f : Nat}, f ≤ 70 → 70 - f ≤ lwR z f ∧ lwR z f ≤ 70 ∧ (∀ k, 70 - f ≤ k → k < lwR z f → rkK (wdW k) < z) ∧ (lwR z f < 70 → ¬ rkK (wdW (lwR z f)) < z)
  | 0, h => by
    unfold lwR
    exact ⟨by omega, by omega, fun k h1 h2 => by omega, fun h => by omega⟩
  | f + 1, h => by
    obtain ⟨h1, h2, h3, h4⟩ := lw_spec z (f := f) (by omega)
    unfold lwR
    split
    · rename_i hc
      refine ⟨by omega, h2, fun k k1 k2 => ?_, h4⟩
      rcases Nat.lt_or_ge k (70 - f) with hk | hk
      · have : k = 70 - (f + 1) := by omega
        rw [this]; exact hc
      · exact h3 k hk k2
    · rename_i hc
      exact ⟨by omega, by omega, fun k k1 k2 => by omega, fun _ => hc⟩
/-- the least power, of a size and of one so many times as great -/
theorem lw_scaled {n : Nat} {z z' : Int} (hn : n ≤ 16) (hz : ∀ k m, k ≤ 70 → m ≤ 70 → m + 8 = k + n → (rkK (wdW m) < z' ↔ rkK (wdW k) < z)) :
    lwR z 70 = 0 ∨ lwR z 70 = 70 ∨ lwR z' 70 = 0 ∨ lwR z' 70 = 70 ∨ lwR z' 70 + 8 = lwR z 70 + n := by
  obtain ⟨_, a2, a3, a4⟩ := lw_spec z (f := 70) (Nat.le_refl _)
  obtain ⟨_, b2, b3, b4⟩ := lw_spec z' (f := 70) (Nat.le_refl _)
  generalize lwR z 70 = a at *
  generalize lwR z' 70 = b at *
  by_cases ha0 : a = 0
  · exact .inl ha0
  by_cases ha7 : a = 70
  · exact .inr (.inl ha7)
  by_cases hb0 : b = 0
  · exact .inr (.inr (.inl hb0))
  by_cases hb7 : b = 70
  · exact .inr (.inr (.inr (.inl hb7)))
  have nT : ∀ k, a ≤ k → k ≤ 70 → ¬ rkK (wdW k) < z := fun k h1 h2 => by
    have := a4 (by omega)
    have h := wd_up (a := a) (d := k - a) (by omega)
    rw [show a + (k - a) = k by omega] at h
    omega
  have nT' : ∀ k, b ≤ k → k ≤ 70 → ¬ rkK (wdW k) < z' := fun k h1 h2 => by
    have := b4 (by omega)
    have h := wd_up (a := b) (d := k - b) (by omega)
    rw [show b + (k - b) = k by omega] at h
    omega
  right; right; right; right
  rcases Nat.lt_trichotomy (b + 8) (a + n) with hlt | heq | hgt
  · -- b is too small: at b the great one fails, the small one at b + 8 - n does not
    exfalso
    rcases Nat.lt_or_ge (b + 8) n with h' | h'
    · -- b + 8 < n: b is below all that the small ones are
      have h0 := (hz 0 (n - 8) (by omega) (by omega) (by omega)).2 (a3 0 (by omega) (by omega))
      have := nT' (n - 8) (by omega) (by omega)
      exact this h0
    · have h0 := (hz (b + 8 - n) b (by omega) b2 (by omega)).2 (a3 (b + 8 - n) (by omega) (by omega))
      exact nT' b (Nat.le_refl _) b2 h0
  · exact heq
  · exfalso
    rcases Nat.lt_or_ge (b - 1 + 8) n with h' | h'
    · omega
    · rcases Nat.lt_or_ge 70 (b - 1 + 8 - n) with h2 | h2
      · have h0 := (hz 70 (70 + n - 8) (by omega) (by omega) (by omega)).1 (b3 (70 + n - 8) (by omega) (by omega))
        exact nT 70 (by omega) (by omega) h0
      · have h0 := (hz (b - 1 + 8 - n) (b - 1) h2 (by omega) (by omega)).1 (b3 (b - 1) (by omega) (by omega))
        exact nT (b - 1 + 8 - n) (by omega) h2 h0
/-- two rows whose places keep their order: so do the sorted ones -/
theorem srt_pairs (P : List (Int × Int)) (h : ∀ x ∈ P, ∀ y ∈ P, x.1 ≤ y.1 → x.2 ≤ y.2) : ∃ Q : List (Int × Int), Q.Perm P ∧ srtZ (P.map (·.1)) = Q.map (·.1) ∧ srtZ (P.map (·.2)) = Q.map (·.2) := by
  obtain ⟨Q, hQ⟩ : ∃ Q, Q = P.mergeSort fun a b => decide (a.1 ≤ b.1) := ⟨_, rfl⟩
  have hp : Q.Perm P := by rw [hQ]; exact List.mergeSort_perm P _
  have hs : Q.Pairwise fun a b => a.1 ≤ b.1 := by
    have := List.pairwise_mergeSort (le := fun (a b : Int × Int) => decide (a.1 ≤ b.1)) (fun a b c h1 h2 => by simp only [decide_eq_true_eq] at *; omega) (fun a b => by simp only [Bool.or_eq_true, decide_eq_true_eq]; omega) P
    rw [← hQ] at this
    exact this.imp fun h => of_decide_eq_true h
  refine ⟨Q, hp, ?_, ?_⟩
  · refine pw_uniq ((srtZ_perm _).trans (hp.map _).symm) (srtZ_pw _) ?_
    rw [List.pairwise_map]; exact hs
  · refine pw_uniq ((srtZ_perm _).trans (hp.map _).symm) (srtZ_pw _) ?_
    rw [List.pairwise_map]
    refine List.Pairwise.imp_of_mem ?_ hs
    intro a b ha hb hab
    exact h a (hp.mem_iff.1 ha) b (hp.mem_iff.1 hb) hab
/-- a box and that box so many times as great -/
def PrB (j : Nat) (b c : Bo) : Prop := Pr j b.1 c.1 ∧ Pr j b.2.1 c.2.1 ∧ Pr j b.2.2.1 c.2.2.1 ∧ Pr j b.2.2.2 c.2.2.2
theorem prb_may {j : Nat} {b c : Bo} (h : PrB j b c) : mayO c = mayO b := pr_chk h.1 h.2.1 h.2.2.1 h.2.2.2
theorem prb_ov {j : Nat} {b c d e : Bo} (h : PrB j b c) (g : PrB j d e) : ovO c e = ovO b d := (pr_over h.1 h.2.1 h.2.2.1 h.2.2.2 g.1 g.2.1 g.2.2.1 g.2.2.2).1
theorem prb_me {j : Nat} {b c d e : Bo} (h : PrB j b c) (g : PrB j d e) : meO c e = meO b d := by unfold meO; rw [prb_may h, prb_may g, prb_ov h g]
theorem rk_lt {a b : Nat} (fa : finK .f64 a = true) (fb : finK .f64 b = true) (ob : okK .f64 b) {k : Nat} (hk : k ≤ 70) : (rkK (wdW k) < rkK b ↔ ltK .f64 (wdW k) b = true) := by
  rw [lt_wd hk ob]; simp
/-- a size, and that of what is so many times as great -/
theorem zrk_sc {n : Nat} (hn : n ≤ 16) {b c : Bo} (h : PrB (92 + n) b c) : ∃ r r', zrk b = rkK r ∧ zrk c = rkK r' ∧ Sc 100 (92 + n) r r' := by
  obtain ⟨pa, pb, pc, pd⟩ := h
  have s1 := sub_some pc.sc.1 pa.sc.1 pa.sc.2.2.1
  have s2 := sub_some pd.sc.1 pb.sc.1 pb.sc.2.2.1
  have s3 := sub_some pc.sc.2.1 pa.sc.2.1 pa.sc.2.2.2.1
  have s4 := sub_some pd.sc.2.1 pb.sc.2.1 pb.sc.2.2.2.1
  have h1 := dv_res s1
  have h2 := dv_res s2
  have g1 := dv_res s3
  have g2 := dv_res s4
  obtain ⟨c1, r1, r1'⟩ := sub_sc pc.sc pa.sc h1 g1 pc.r pa.r pc.r' pa.r' (by omega) (by omega) (by omega) (by omega) (by omega) (by omega)
  obtain ⟨c2, r2, r2'⟩ := sub_sc pd.sc pb.sc h2 g2 pd.r pb.r pd.r' pb.r' (by omega) (by omega) (by omega) (by omega) (by omega) (by omega)
  have t1 := some_add c1.1 c2.1
  have t2 := some_add c1.2.1 c2.2.1
  have h3 := dv_res t1
  have g3 := dv_res t2
  obtain ⟨c3, r3, _⟩ := add_sc c1 c2 h3 g3 r1 r2 r1' r2' (by omega) (by omega) (by omega) (by omega) (by omega) (by omega)
  refine ⟨_, _, ?_, ?_, c3⟩
  · obtain ⟨r, hr⟩ := Option.isSome_iff_exists.1 t1
    have e : Dv .add (Dv .sub b.2.2.1 b.1) (Dv .sub b.2.2.2 b.2.1) = r := by unfold Dv at hr ⊢; rw [hr]; rfl
    unfold zrk
    rw [hr, e]
  · obtain ⟨r, hr⟩ := Option.isSome_iff_exists.1 t2
    have e : Dv .add (Dv .sub c.2.2.1 c.1) (Dv .sub c.2.2.2 c.2.1) = r := by unfold Dv at hr ⊢; rw [hr]; rfl
    unfold zrk
    rw [hr, e]
theorem sc_rk {i j x x' y y' : Nat} (h : Sc i j x x') (g : Sc i j y y') : rkK x' ≤ rkK y' ↔ rkK x ≤ rkK y := by
  have q1 := sc_rg h g
  have q2 := sc_rg g h
  obtain ⟨f1, f2, _, _, n1, _⟩ := h
  obtain ⟨f3, f4, _, _, n2, _⟩ := g
  unfold rkK
  rw [fin_num f1, fin_num f2, fin_num f3, fin_num f4]
  simp only [Bool.false_eq_true, if_false]
  unfold plK
  rw [n1, n2]
  cases ngK .f64 x <;> cases ngK .f64 y <;> simp <;> omega
theorem numsK {f g : Nat → Bool} {n : Nat} (h : ∀ i, i < n → f i = g i) : nums f n = nums g n := by
  unfold nums
  exact List.filter_congr fun i hi => h i (List.mem_range.1 hi)
/-- the good width of boxes so many times as great -/
theorem gw_scaled {n N : Nat} (hn : n ≤ 16) (hN : N ≤ 200) {B M : Nat → Bo} (h : ∀ i, i < N → PrB (92 + n) (B i) (M i)) :
    (∀ i, i < N → mayO (B i) = false) ∨ gwW B N = wdW 0 ∨ gwW B N = wdW 70 ∨ gwW M N = wdW 0 ∨ gwW M N = wdW 70 ∨ floatBits .mul .f64 (gwW B N) (pw ((n : Int) - 8)) = some (gwW M N) := by
  have eB : gwW B N = midW (zrL B N) := by unfold gwW; rw [if_neg (by omega)]
  have eM : gwW M N = midW (zrL M N) := by unfold gwW; rw [if_neg (by omega)]
  obtain ⟨K, hK⟩ : ∃ K, K = nums (fun i => mayO (B i)) N := ⟨_, rfl⟩
  have hKM : nums (fun i => mayO (M i)) N = K := by rw [hK]; exact numsK fun i hi => prb_may (h i hi)
  have hin : ∀ i ∈ K, i < N := fun i hi => by rw [hK] at hi; unfold nums at hi; exact List.mem_range.1 (List.mem_filter.1 hi).1
  obtain ⟨P, hP⟩ : ∃ P, P = K.map fun i => (zrk (B i), zrk (M i)) := ⟨_, rfl⟩
  have l1 : zrL B N = P.map (·.1) := by unfold zrL; rw [← hK, hP, List.map_map]; rfl
  have l2 : zrL M N = P.map (·.2) := by unfold zrL; rw [hKM, hP, List.map_map]; rfl
  have hsc : ∀ x ∈ P, ∃ r r', x.1 = rkK r ∧ x.2 = rkK r' ∧ Sc 100 (92 + n) r r' := fun x hx => by
    rw [hP] at hx
    obtain ⟨i, hi, rfl⟩ := List.mem_map.1 hx
    exact zrk_sc hn (h i (hin i hi))
  obtain ⟨Q, hQ, q1, q2⟩ := srt_pairs P fun x hx y hy hxy => by
    obtain ⟨r, r', e1, e2, s1⟩ := hsc x hx
    obtain ⟨t, t', e3, e4, s2⟩ := hsc y hy
    rw [e1, e3] at hxy
    rw [e2, e4]
    exact (sc_rk s1 s2).2 hxy
  rcases Nat.eq_zero_or_pos P.length with h0 | h0
  · left
    intro i hi
    have hk0 : K = [] := by
      have : K.length = 0 := by rw [hP, List.length_map] at h0; exact h0
      exact List.eq_nil_of_length_eq_zero this
    cases hm : mayO (B i) with
    | false => rfl
    | true =>
      have : i ∈ K := by rw [hK]; unfold nums; exact List.mem_filter.2 ⟨List.mem_range.2 hi, hm⟩
      rw [hk0] at this
      cases this
  · right
    have hl : Q.length = P.length := hQ.length_eq
    obtain ⟨x, hx⟩ : ∃ x, Q[(P.length - 1) / 2]? = some x := ⟨_, List.getElem?_eq_getElem (by omega)⟩
    obtain ⟨r, r', e1, e2, s1⟩ := hsc x (hQ.mem_iff.1 (List.mem_of_getElem? hx))
    have m1 : midW (zrL B N) = pwR x.1 := by
      unfold midW
      rw [l1, q1, List.length_map, List.getElem?_map, hx]; rfl
    have m2 : midW (zrL M N) = pwR x.2 := by
      unfold midW
      rw [l2, q2, List.length_map, List.getElem?_map, hx]; rfl
    rw [eB, eM, m1, m2]
    have hlw := lw_scaled (z := x.1) (z' := x.2) hn fun k m hk hm e => by
      rw [e1, e2, rk_lt s1.2.1 s1.2.1 s1.2.2.2.1 hm, rk_lt s1.1 s1.1 s1.2.2.1 hk, sc_lt (wd_sc hk hm e) s1]
    obtain ⟨_, a2, _, _⟩ := lw_spec x.1 (f := 70) (Nat.le_refl _)
    obtain ⟨_, b2, _, _⟩ := lw_spec x.2 (f := 70) (Nat.le_refl _)
    unfold pwR
    rcases hlw with e | e | e | e | e
    · exact .inl (by rw [e])
    · exact .inr (.inl (by rw [e]))
    · exact .inr (.inr (.inl (by rw [e])))
    · exact .inr (.inr (.inr (.inl (by rw [e]))))
    · exact .inr (.inr (.inr (.inr (wd_times a2 hn b2 e))))
theorem refP_scaled {j N : Nat} {B M : Nat → Bo} (h : ∀ i, i < N → PrB j (B i) (M i)) : refP M N = refP B N := by
  unfold refP
  have : ∀ m, m ≤ N → allB M M (fun i k => decide (i < k)) N m = allB B B (fun i k => decide (i < k)) N m := by
    intro m
    induction m with
    | zero => intro _; rfl
    | succ m ih =>
      intro hm
      show allB M M _ N m ++ rowB M M _ N m = allB B B _ N m ++ rowB B B _ N m
      rw [ih (by omega)]
      congr 1
      unfold rowB
      congr 1
      refine List.filter_congr fun k hk => ?_
      rw [prb_me (h m (by omega)) (h k (List.mem_range.1 hk))]
  exact this N (Nat.le_refl _)
end Go.Proofs.Ytekhnolpgoejdab
