/-
  What each function of package poly answers, and what the reference of its chapter answers: one contract a function, for every float: the answer stands in the relation of its formula to what was given; of the memory that was there nothing has turned.
-/
import Derived.Test.YtoofbfjlgablkaaVec
import Derived.Test.YtoofbfjlgablkaaMg
import Derived.Below
import Derived.WalkKit
import Derived.WalkLawsBesides
import Derived.WalkSpells
import Derived.ProofKit
import Derived.OpenShut
import Derived.Deep.RegionHeld3
namespace Go.Proofs.Ytoofbfjlgablkaa
open Go.ChangeShapes Go.WideShapes Go.ChangeAt Go.RowKit
set_option linter.unusedVariables false
set_option linter.unusedSimpArgs false


def triX (i : Nat) : Nat := if i = 1 then 4613937818241073152 else 0
def triY (i : Nat) : Nat := if i = 2 then 4613937818241073152 else 0
def nX0 (i : Nat) : Nat := 0
set_option maxRecDepth 100000 in
theorem tri_ev {m j x y : Nat} {f : Int} (h : OfA 3 0 triX triY 3 4611686018427387904 m j x y f) : m = 4621256167635550208 ∧ j = 4621256167635550208 ∧ x = 4607182418800017408 ∧ y = 4607182418800017408 ∧ f = 0 := by
  unfold OfA at h
  rw [if_pos (by decide +kernel), if_pos (by decide +kernel), if_neg (by decide), if_neg (by decide)] at h
  have f0 : fanE triX triY 3 = 0 := by decide +kernel
  have a0 : areaE triX triY 3 = 4616752568008179712 := by decide +kernel
  have cx : cenX triX triY 3 = 4607182418800017408 := by decide +kernel
  have cy : cenY triX triY 3 = 4607182418800017408 := by decide +kernel
  rcases h with ⟨h, _⟩ | ⟨_, _, m', j', hm, ⟨sp, qq, ⟨ts, hts, g, g0, g2, hg⟩, hq, hj⟩, hT⟩
  · exact absurd f0 h
  rw [a0] at hm
  rw [cx, cy] at hts hT
  obtain rfl : m' = 4621256167635550208 := (res_dv hm (by decide +kernel)).trans (by decide +kernel)
  have t0T := hts 0 (by decide)
  have t1T := hts 1 (by decide)
  have t2T := hts 2 (by decide)
  rw [show triX 0 = 0 by decide, show triY 0 = 0 by decide, show triX ((0 + 1) % 3) = 4613937818241073152 by decide, show triY ((0 + 1) % 3) = 0 by decide] at t0T
  rw [show triX 1 = 4613937818241073152 by decide, show triY 1 = 0 by decide, show triX ((1 + 1) % 3) = 0 by decide, show triY ((1 + 1) % 3) = 4613937818241073152 by decide] at t1T
  rw [show triX 2 = 0 by decide, show triY 2 = 4613937818241073152 by decide, show triX ((2 + 1) % 3) = 0 by decide, show triY ((2 + 1) % 3) = 0 by decide] at t2T
  obtain ⟨t0ax, t0ay, t0bx, t0by, t0c, t0d, t0f, t0g, t0u, t0v, ⟨t0h1, t0h2⟩, ⟨t0h3, t0h4⟩, ⟨t0p1, t0p2, t0h5, t0h6, t0h7⟩, ⟨t0p3, t0p4, t0h8, t0h9, t0i1⟩, ⟨t0p5, t0p6, t0i2, t0i3, t0i4⟩, ⟨t0p7, t0p8, t0i5, t0i6, t0i7⟩, t0i8, t0i9, t0j1⟩ := t0T
  obtain rfl : t0ax = 13830554455654793216 := (res_dv t0h1 (by decide +kernel)).trans (by decide +kernel)
  obtain rfl : t0ay = 13830554455654793216 := (res_dv t0h2 (by decide +kernel)).trans (by decide +kernel)
  obtain rfl : t0bx = 4611686018427387904 := (res_dv t0h3 (by decide +kernel)).trans (by decide +kernel)
  obtain rfl : t0by = 13830554455654793216 := (res_dv t0h4 (by decide +kernel)).trans (by decide +kernel)
  obtain rfl : t0p1 = 4607182418800017408 := (res_dv t0h5 (by decide +kernel)).trans (by decide +kernel)
  obtain rfl : t0p2 = 13835058055282163712 := (res_dv t0h6 (by decide +kernel)).trans (by decide +kernel)
  obtain rfl : t0c = 4613937818241073152 := (res_dv t0h7 (by decide +kernel)).trans (by decide +kernel)
  obtain rfl : t0p3 = 4607182418800017408 := (res_dv t0h8 (by decide +kernel)).trans (by decide +kernel)
  obtain rfl : t0p4 = 4607182418800017408 := (res_dv t0h9 (by decide +kernel)).trans (by decide +kernel)
  obtain rfl : t0d = 4611686018427387904 := (res_dv t0i1 (by decide +kernel)).trans (by decide +kernel)
  obtain rfl : t0p5 = 13835058055282163712 := (res_dv t0i2 (by decide +kernel)).trans (by decide +kernel)
  obtain rfl : t0p6 = 4607182418800017408 := (res_dv t0i3 (by decide +kernel)).trans (by decide +kernel)
  obtain rfl : t0f = 13830554455654793216 := (res_dv t0i4 (by decide +kernel)).trans (by decide +kernel)
  obtain rfl : t0p7 = 4616189618054758400 := (res_dv t0i5 (by decide +kernel)).trans (by decide +kernel)
  obtain rfl : t0p8 = 4607182418800017408 := (res_dv t0i6 (by decide +kernel)).trans (by decide +kernel)
  obtain rfl : t0g = 4617315517961601024 := (res_dv t0i7 (by decide +kernel)).trans (by decide +kernel)
  obtain rfl : t0u = 4607182418800017408 := (res_dv t0i8 (by decide +kernel)).trans (by decide +kernel)
  obtain rfl : t0v = 4618441417868443648 := (res_dv t0i9 (by decide +kernel)).trans (by decide +kernel)
  have t0E : (ts 0) = 4625759767262920704 := (res_dv t0j1 (by decide +kernel)).trans (by decide +kernel)
  obtain ⟨t1ax, t1ay, t1bx, t1by, t1c, t1d, t1f, t1g, t1u, t1v, ⟨t1h1, t1h2⟩, ⟨t1h3, t1h4⟩, ⟨t1p1, t1p2, t1h5, t1h6, t1h7⟩, ⟨t1p3, t1p4, t1h8, t1h9, t1i1⟩, ⟨t1p5, t1p6, t1i2, t1i3, t1i4⟩, ⟨t1p7, t1p8, t1i5, t1i6, t1i7⟩, t1i8, t1i9, t1j1⟩ := t1T
  obtain rfl : t1ax = 4611686018427387904 := (res_dv t1h1 (by decide +kernel)).trans (by decide +kernel)
  obtain rfl : t1ay = 13830554455654793216 := (res_dv t1h2 (by decide +kernel)).trans (by decide +kernel)
  obtain rfl : t1bx = 13830554455654793216 := (res_dv t1h3 (by decide +kernel)).trans (by decide +kernel)
  obtain rfl : t1by = 4611686018427387904 := (res_dv t1h4 (by decide +kernel)).trans (by decide +kernel)
  obtain rfl : t1p1 = 4616189618054758400 := (res_dv t1h5 (by decide +kernel)).trans (by decide +kernel)
  obtain rfl : t1p2 = 4607182418800017408 := (res_dv t1h6 (by decide +kernel)).trans (by decide +kernel)
  obtain rfl : t1c = 4613937818241073152 := (res_dv t1h7 (by decide +kernel)).trans (by decide +kernel)
  obtain rfl : t1p3 = 4616189618054758400 := (res_dv t1h8 (by decide +kernel)).trans (by decide +kernel)
  obtain rfl : t1p4 = 4607182418800017408 := (res_dv t1h9 (by decide +kernel)).trans (by decide +kernel)
  obtain rfl : t1d = 4617315517961601024 := (res_dv t1i1 (by decide +kernel)).trans (by decide +kernel)
  obtain rfl : t1p5 = 13835058055282163712 := (res_dv t1i2 (by decide +kernel)).trans (by decide +kernel)
  obtain rfl : t1p6 = 13835058055282163712 := (res_dv t1i3 (by decide +kernel)).trans (by decide +kernel)
  obtain rfl : t1f = 13839561654909534208 := (res_dv t1i4 (by decide +kernel)).trans (by decide +kernel)
  obtain rfl : t1p7 = 4607182418800017408 := (res_dv t1i5 (by decide +kernel)).trans (by decide +kernel)
  obtain rfl : t1p8 = 4616189618054758400 := (res_dv t1i6 (by decide +kernel)).trans (by decide +kernel)
  obtain rfl : t1g = 4617315517961601024 := (res_dv t1i7 (by decide +kernel)).trans (by decide +kernel)
  obtain rfl : t1u = 4607182418800017408 := (res_dv t1i8 (by decide +kernel)).trans (by decide +kernel)
  obtain rfl : t1v = 4618441417868443648 := (res_dv t1i9 (by decide +kernel)).trans (by decide +kernel)
  have t1E : (ts 1) = 4625759767262920704 := (res_dv t1j1 (by decide +kernel)).trans (by decide +kernel)
  obtain ⟨t2ax, t2ay, t2bx, t2by, t2c, t2d, t2f, t2g, t2u, t2v, ⟨t2h1, t2h2⟩, ⟨t2h3, t2h4⟩, ⟨t2p1, t2p2, t2h5, t2h6, t2h7⟩, ⟨t2p3, t2p4, t2h8, t2h9, t2i1⟩, ⟨t2p5, t2p6, t2i2, t2i3, t2i4⟩, ⟨t2p7, t2p8, t2i5, t2i6, t2i7⟩, t2i8, t2i9, t2j1⟩ := t2T
  obtain rfl : t2ax = 13830554455654793216 := (res_dv t2h1 (by decide +kernel)).trans (by decide +kernel)
  obtain rfl : t2ay = 4611686018427387904 := (res_dv t2h2 (by decide +kernel)).trans (by decide +kernel)
  obtain rfl : t2bx = 13830554455654793216 := (res_dv t2h3 (by decide +kernel)).trans (by decide +kernel)
  obtain rfl : t2by = 13830554455654793216 := (res_dv t2h4 (by decide +kernel)).trans (by decide +kernel)
  obtain rfl : t2p1 = 4607182418800017408 := (res_dv t2h5 (by decide +kernel)).trans (by decide +kernel)
  obtain rfl : t2p2 = 13835058055282163712 := (res_dv t2h6 (by decide +kernel)).trans (by decide +kernel)
  obtain rfl : t2c = 4613937818241073152 := (res_dv t2h7 (by decide +kernel)).trans (by decide +kernel)
  obtain rfl : t2p3 = 4607182418800017408 := (res_dv t2h8 (by decide +kernel)).trans (by decide +kernel)
  obtain rfl : t2p4 = 4616189618054758400 := (res_dv t2h9 (by decide +kernel)).trans (by decide +kernel)
  obtain rfl : t2d = 4617315517961601024 := (res_dv t2i1 (by decide +kernel)).trans (by decide +kernel)
  obtain rfl : t2p5 = 4607182418800017408 := (res_dv t2i2 (by decide +kernel)).trans (by decide +kernel)
  obtain rfl : t2p6 = 13835058055282163712 := (res_dv t2i3 (by decide +kernel)).trans (by decide +kernel)
  obtain rfl : t2f = 13830554455654793216 := (res_dv t2i4 (by decide +kernel)).trans (by decide +kernel)
  obtain rfl : t2p7 = 4607182418800017408 := (res_dv t2i5 (by decide +kernel)).trans (by decide +kernel)
  obtain rfl : t2p8 = 4607182418800017408 := (res_dv t2i6 (by decide +kernel)).trans (by decide +kernel)
  obtain rfl : t2g = 4611686018427387904 := (res_dv t2i7 (by decide +kernel)).trans (by decide +kernel)
  obtain rfl : t2u = 4616189618054758400 := (res_dv t2i8 (by decide +kernel)).trans (by decide +kernel)
  obtain rfl : t2v = 4618441417868443648 := (res_dv t2i9 (by decide +kernel)).trans (by decide +kernel)
  have t2E : (ts 2) = 4625759767262920704 := (res_dv t2j1 (by decide +kernel)).trans (by decide +kernel)
  have g1 := hg 0 (by decide)
  have g3 := hg 1 (by decide)
  simp only [Nat.zero_add, g0, t0E, t1E] at g1
  obtain e1 : g 1 = 4630263366890291200 := (res_dv g1 (by decide +kernel)).trans (by decide +kernel)
  simp only [Nat.reduceAdd, e1, t2E] at g3
  obtain e2 : g 2 = 4632796641680687104 := (res_dv g3 (by decide +kernel)).trans (by decide +kernel)
  have e3 : sp = 4632796641680687104 := by rw [← g2]; exact e2
  subst e3
  obtain rfl : qq = 4616752568008179712 := (res_dv hq (by decide +kernel)).trans (by decide +kernel)
  obtain rfl : j' = 4621256167635550208 := (res_dv hj (by decide +kernel)).trans (by decide +kernel)
  rcases hT with ⟨_, rfl, rfl, rfl, rfl, rfl⟩ | ⟨h, _⟩
  · exact ⟨rfl, rfl, rfl, rfl, rfl⟩
  · exact absurd h (by decide +kernel)
theorem cir_ev {m j x y : Nat} {f : Int} (h : OfA 1 4611686018427387904 nX0 nX0 1 4602678819172646912 m j x y f) : m = 4618760256179416344 ∧ j = 4623263855806786840 ∧ x = 0 ∧ y = 0 ∧ f = 0 := by
  unfold OfA at h
  rw [if_pos (by decide +kernel), if_pos (by decide +kernel), if_pos rfl] at h
  obtain ⟨m', j', ⟨a, b, a2, c, h1, h2, h3, h4, h5, h6⟩, hT⟩ := h
  obtain rfl : a = 4616189618054758400 := (res_dv h1 (by decide +kernel)).trans (by decide +kernel)
  obtain rfl : b = 4623263855806786840 := (res_dv h2 (by decide +kernel)).trans (by decide +kernel)
  obtain rfl : m' = 4618760256179416344 := (res_dv h3 (by decide +kernel)).trans (by decide +kernel)
  obtain rfl : a2 = 4616189618054758400 := (res_dv h4 (by decide +kernel)).trans (by decide +kernel)
  obtain rfl : c = 4627767455434157336 := (res_dv h5 (by decide +kernel)).trans (by decide +kernel)
  obtain rfl : j' = 4623263855806786840 := (res_dv h6 (by decide +kernel)).trans (by decide +kernel)
  rcases hT with ⟨_, rfl, rfl, rfl, rfl, rfl⟩ | ⟨h, _⟩
  · exact ⟨rfl, rfl, rfl, rfl, rfl⟩
  · exact absurd h (by decide +kernel)
theorem sum_two {T : Nat → Nat → Prop} {r : Nat} (h : SumR 2 T r) : ∃ a b, T 0 a ∧ T 1 b ∧ resK .add .f64 a b r := by
  obtain ⟨ts, h1, f, f0, f1, hf⟩ := h
  have := hf 0 (by decide)
  simp only [Nat.zero_add, f0] at this
  exact ⟨_, _, h1 0 (by decide), h1 1 (by decide), f1 ▸ this⟩
def jM (i : Nat) : Nat := if i = 0 then 4611686018427387904 else 4618441417868443648
def jI (i : Nat) : Nat := if i = 0 then 4607182418800017408 else 4611686018427387904
def jX (i : Nat) : Nat := if i = 0 then 0 else 4616189618054758400
theorem two_ev {m j x y : Nat} {f : Int} (h : JoinA jM jI jX nX0 2 AboutR m j x y f) : m = 4620693217682128896 ∧ j = 4628293042053316608 ∧ x = 4613937818241073152 ∧ y = 0 ∧ f = 0 := by
  have hall : allM jM jI jX nX0 2 := by
    intro q hq
    rcases (show q = 0 ∨ q = 1 by omega) with rfl | rfl <;> decide +kernel
  rcases h with ⟨h, _⟩ | ⟨_, h, _⟩ | ⟨h, _⟩ | ⟨h, _⟩ | ⟨_, _, _, M, hM, hR⟩
  · omega
  · exact absurd hall h
  · omega
  · omega
  obtain ⟨a, b, rfl, rfl, hM⟩ := sum_two hM
  obtain rfl : M = 4620693217682128896 := (res_dv hM (by decide +kernel)).trans (by decide +kernel)
  rcases hR with ⟨h, _⟩ | ⟨_, sx, sy, px, py, I, hx, hy, hpx, hpy, hI, hT⟩
  · exact absurd h (by decide +kernel)
  obtain ⟨a, b, ha, hb, hx⟩ := sum_two hx
  obtain rfl : a = 0 := (res_dv ha (by decide +kernel)).trans (by decide +kernel)
  obtain rfl : b = 4627448617123184640 := (res_dv hb (by decide +kernel)).trans (by decide +kernel)
  obtain rfl : sx = 4627448617123184640 := (res_dv hx (by decide +kernel)).trans (by decide +kernel)
  obtain ⟨a, b, ha, hb, hy⟩ := sum_two hy
  obtain rfl : a = 0 := (res_dv ha (by decide +kernel)).trans (by decide +kernel)
  obtain rfl : b = 0 := (res_dv hb (by decide +kernel)).trans (by decide +kernel)
  obtain rfl : sy = 0 := (res_dv hy (by decide +kernel)).trans (by decide +kernel)
  obtain rfl : px = 4613937818241073152 := (res_dv hpx (by decide +kernel)).trans (by decide +kernel)
  obtain rfl : py = 0 := (res_dv hpy (by decide +kernel)).trans (by decide +kernel)
  obtain ⟨a, b, ⟨x1, y1, s1, q1, ⟨u1, u2⟩, ⟨p1, p2, u3, u4, u5⟩, u6, u7⟩, ⟨x2, y2, s2, q2, ⟨v1, v2⟩, ⟨p3, p4, v3, v4, v5⟩, v6, v7⟩, hI⟩ := sum_two hI
  obtain rfl : x1 = 4613937818241073152 := (res_dv u1 (by decide +kernel)).trans (by decide +kernel)
  obtain rfl : y1 = 0 := (res_dv u2 (by decide +kernel)).trans (by decide +kernel)
  obtain rfl : p1 = 4621256167635550208 := (res_dv u3 (by decide +kernel)).trans (by decide +kernel)
  obtain rfl : p2 = 0 := (res_dv u4 (by decide +kernel)).trans (by decide +kernel)
  obtain rfl : s1 = 4621256167635550208 := (res_dv u5 (by decide +kernel)).trans (by decide +kernel)
  obtain rfl : q1 = 4625759767262920704 := (res_dv u6 (by decide +kernel)).trans (by decide +kernel)
  obtain rfl : a = 4626041242239631360 := (res_dv u7 (by decide +kernel)).trans (by decide +kernel)
  obtain rfl : x2 = 13830554455654793216 := (res_dv v1 (by decide +kernel)).trans (by decide +kernel)
  obtain rfl : y2 = 0 := (res_dv v2 (by decide +kernel)).trans (by decide +kernel)
  obtain rfl : p3 = 4607182418800017408 := (res_dv v3 (by decide +kernel)).trans (by decide +kernel)
  obtain rfl : p4 = 0 := (res_dv v4 (by decide +kernel)).trans (by decide +kernel)
  obtain rfl : s2 = 4607182418800017408 := (res_dv v5 (by decide +kernel)).trans (by decide +kernel)
  obtain rfl : q2 = 4618441417868443648 := (res_dv v6 (by decide +kernel)).trans (by decide +kernel)
  obtain rfl : b = 4620693217682128896 := (res_dv v7 (by decide +kernel)).trans (by decide +kernel)
  obtain rfl : I = 4628293042053316608 := (res_dv hI (by decide +kernel)).trans (by decide +kernel)
  rcases hT with ⟨_, rfl, rfl, rfl, rfl, rfl⟩ | ⟨h, _⟩
  · exact ⟨rfl, rfl, rfl, rfl, rfl⟩
  · exact absurd h (by decide +kernel)
theorem about_ev {r : Nat} {k : Int} (h : AbA 4611686018427387904 4607182418800017408 0 0 4613937818241073152 4616189618054758400 r k) : r = 4632374429215621120 ∧ k = 0 := by
  rcases h with ⟨h, _⟩ | ⟨_, h, _⟩ | ⟨_, _, ⟨x1, y1, s1, q1, ⟨u1, u2⟩, ⟨p1, p2, u3, u4, u5⟩, u6, u7⟩, rfl⟩
  · exact absurd h (by decide +kernel)
  · exact absurd h (by decide +kernel)
  obtain rfl : x1 = 4613937818241073152 := (res_dv u1 (by decide +kernel)).trans (by decide +kernel)
  obtain rfl : y1 = 4616189618054758400 := (res_dv u2 (by decide +kernel)).trans (by decide +kernel)
  obtain rfl : p1 = 4621256167635550208 := (res_dv u3 (by decide +kernel)).trans (by decide +kernel)
  obtain rfl : p2 = 4625196817309499392 := (res_dv u4 (by decide +kernel)).trans (by decide +kernel)
  obtain rfl : s1 = 4627730092099895296 := (res_dv u5 (by decide +kernel)).trans (by decide +kernel)
  obtain rfl : q1 = 4632233691727265792 := (res_dv u6 (by decide +kernel)).trans (by decide +kernel)
  obtain rfl : r = 4632374429215621120 := (res_dv u7 (by decide +kernel)).trans (by decide +kernel)
  exact ⟨rfl, rfl⟩
theorem still_ev {a b : Nat} {k : Int} (h : StA 4611686018427387904 4602678819172646912 0 0 a b k) : a = 4602678819172646912 ∧ b = 4611686018427387904 ∧ k = 0 := by
  rcases h with ⟨h, _⟩ | ⟨_, ⟨c, h1, rfl⟩, ⟨d, h2, rfl⟩, rfl⟩
  · exact absurd h (by decide +kernel)
  obtain rfl : c = 4602678819172646912 := (res_dv h1 (by decide +kernel)).trans (by decide +kernel)
  obtain rfl : d = 4611686018427387904 := (res_dv h2 (by decide +kernel)).trans (by decide +kernel)
  exact ⟨by decide +kernel, by decide +kernel, rfl⟩

end Go.Proofs.Ytoofbfjlgablkaa
