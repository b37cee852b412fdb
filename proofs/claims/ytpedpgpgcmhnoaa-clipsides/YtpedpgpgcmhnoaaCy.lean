/-
  What each function of package poly answers, and what the reference of its chapter answers: one contract a function, for every float: the answer stands in the relation of its formula to what was given; of the memory that was there nothing has turned.
-/
import Derived.Test.YtpedpgpgcmhnoaaVec
import Derived.Test.YtpedpgpgcmhnoaaCx
import Derived.Below
import Derived.WalkKit
import Derived.WalkLawsBesides
import Derived.WalkSpells
import Derived.ProofKit
import Derived.OpenShut
import Derived.Deep.RegionHeld3
namespace Go.Proofs.Ytpedpgpgcmhnoaa
open Go.ChangeShapes Go.WideShapes Go.ChangeAt Go.RowKit
set_option linter.unusedVariables false
set_option linter.unusedSimpArgs false


/-- what is left of a segment, and whence -/
def segS (p : Pn) (a b : Pt) : List Pt := if farE p [a, b] = 0 then (if wiB p a = true then (if wiB p b = true then [a, b] else [a, cuP p a b]) else if wiB p b = true then [cuP p a b, b] else []) else []
def segF (p : Pn) (a b : Pt) : List Int := if farE p [a, b] = 0 then (if wiB p a = true then (if wiB p b = true then [0, 1] else [0, 2]) else if wiB p b = true then [2, 1] else []) else []
/-- slices of so many places, and of so many numbers -/
def SegC (w : World) (sa fa : Option Addr) (S : List Pt) (F : List Int) : Prop := ∀ i, i < F.length → ∃ g q, sa = some ⟨g, 0, none⟩ ∧ fa = some ⟨q, 0, none⟩ ∧ w.cell? ⟨g, i * 2, none⟩ = some (.float .f64 (px S i)) ∧ w.cell? ⟨g, i * 2 + 1, none⟩ = some (.float .f64 (py S i)) ∧ w.cell? ⟨q, i, none⟩ = some (.int .i64 (F.getD i 0))
theorem SegC.bel {w w' : World} {sa fa : Option Addr} {S : List Pt} {F : List Int} (h : SegC w sa fa S F) (b : Bel w w') : SegC w' sa fa S F := fun i hi => by
  obtain ⟨g, q, e1, e2, h1, h2, h3⟩ := h i hi
  exact ⟨g, q, e1, e2, keep b h1, keep b h2, keep b h3⟩
theorem segC_two {w : World} {g q : Nat} {S : List Pt} {x y : Int} (hS : Sl w g 0 2 (px S) (py S)) (h0 : w.cell? ⟨q, 0, none⟩ = some (.int .i64 x)) (h1 : w.cell? ⟨q, 1, none⟩ = some (.int .i64 y)) : SegC w (some ⟨g, 0, none⟩) (some ⟨q, 0, none⟩) S [x, y] := by
  intro i hi
  have hi : i < 2 := hi
  obtain ⟨s0, s1⟩ := hS i hi
  rw [Nat.zero_add] at s0 s1
  refine ⟨g, q, rfl, rfl, s0, s1, ?_⟩
  rcases (show i = 0 ∨ i = 1 by omega) with rfl | rfl
  · exact h0
  · exact h1
theorem far_swap (p : Pn) (a b : Pt) : farE p [b, a] = farE p [a, b] := by
  unfold farE cwE reaB allB
  simp [px, py, pt, List.range_succ, Bool.and_comm]
theorem segF_swap (p : Pn) (a b : Pt) : (segF p b a).length = (segF p a b).length := by
  unfold segF
  rw [far_swap]
  by_cases h0 : farE p [a, b] = 0
  · by_cases h1 : wiB p a = true <;> by_cases h2 : wiB p b = true <;> simp [h0, h1, h2]
  · simp [h0]
theorem segF_pair {p : Pn} {a b : Pt} {i : Nat} (hi : i < (segF p a b).length) : (segF p a b).length = 2 ∧ farE p [a, b] = 0 ∧ (((segF p a b).getD i 0 = 2 ∧ (segF p b a).getD (1 - i) 0 = 2) ∨ ((segF p a b).getD i 0 = 0 ∧ (segF p b a).getD (1 - i) 0 = 1) ∨ ((segF p a b).getD i 0 = 1 ∧ (segF p b a).getD (1 - i) 0 = 0)) := by
  by_cases h0 : farE p [a, b] = 0
  · have h0' : farE p [b, a] = 0 := by rw [far_swap]; exact h0
    by_cases h1 : wiB p a = true <;> by_cases h2 : wiB p b = true <;> simp only [segF, h0, h0', h1, h2, if_true, if_false, Bool.false_eq_true, List.length_cons, List.length_nil, Nat.not_lt_zero] at hi ⊢
    all_goals (rcases (show i = 0 ∨ i = 1 by omega) with rfl | rfl <;> simp)
  · unfold segF at hi
    rw [if_neg h0] at hi
    cases hi
theorem segS_in {p : Pn} {a b : Pt} {m i : Nat} (o1 : okK .f64 p.1) (o2 : okK .f64 p.2.1) (o3 : okK .f64 p.2.2) (oa : okK .f64 a.1 ∧ okK .f64 a.2) (ob : okK .f64 b.1 ∧ okK .f64 b.2) (hp : pnB p = true) (hm : Bd 43 m) (hM : 1 ≤ rv m) (hf : ab (rv p.2.2) ≤ rv m) (ga : Grt m a) (gb : Grt m b) (hi : i < (segF p a b).length) :
    PtB 48 (px (segS p a b) i, py (segS p a b) i) ∧ leK .f64 (frK p (px (segS p a b) i, py (segS p a b) i)) (Dv .mul 4436045632959938560 m) = true := by
  obtain ⟨_, h0, _⟩ := segF_pair hi
  obtain ⟨hP, hL⟩ := farE_bd h0 o1 o2 o3 (fun q hq => by simp at hq; rcases hq with rfl | rfl; exact oa; exact ob)
  have ha := hL a (by simp)
  have hb := hL b (by simp)
  have key : ∀ q : Pt, (q = a ∧ wiB p a = true) ∨ (q = b ∧ wiB p b = true) ∨ (q = cuP p a b ∧ wiB p a ≠ wiB p b) → PtB 48 q ∧ leK .f64 (frK p q) (Dv .mul 4436045632959938560 m) = true := by
    rintro q (⟨rfl, h⟩ | ⟨rfl, h⟩ | ⟨rfl, h⟩)
    · exact ⟨ha.mono (by decide), wi_in hP ha (by decide) hm hM h⟩
    · exact ⟨hb.mono (by decide), wi_in hP hb (by decide) hm hM h⟩
    · exact ⟨cu_bd hP ha hb (by decide) h, cut_in2 o1 o2 o3 hp ha hb hm hM hf ga gb h⟩
  have e : (px (segS p a b) i, py (segS p a b) i) = pt (segS p a b) i := rfl
  rw [e]
  by_cases h1 : wiB p a = true <;> by_cases h2 : wiB p b = true <;> simp only [segF, segS, h0, h1, h2, if_true, if_false, Bool.false_eq_true, List.length_cons, List.length_nil, Nat.not_lt_zero] at hi ⊢
  all_goals (rcases (show i = 0 ∨ i = 1 by omega) with rfl | rfl <;> refine key _ ?_ <;> simp [pt, h1, h2])

theorem seg_any (nx ny fd ax ay bx b_y : Nat) (w : World) (o1 : okK .f64 nx) (o2 : okK .f64 ny) (o3 : okK .f64 fd) (oa : okK .f64 ax) (ob : okK .f64 ay) (oc : okK .f64 bx) (od : okK .f64 b_y) : Calls Try.prog 13 #[.agg #[.float .f64 nx, .float .f64 ny, .float .f64 fd], .agg #[.float .f64 ax, .float .f64 ay], .agg #[.float .f64 bx, .float .f64 b_y]] w fun e w' => ∃ sa fa, e = .returned (.tuple #[.slice sa (segF (nx, ny, fd) (ax, ay) (bx, b_y)).length (segF (nx, ny, fd) (ax, ay) (bx, b_y)).length, .slice fa (segF (nx, ny, fd) (ax, ay) (bx, b_y)).length (segF (nx, ny, fd) (ax, ay) (bx, b_y)).length, .int .i64 (farE (nx, ny, fd) [(ax, ay), (bx, b_y)])]) ∧ SegC w' sa fa (segS (nx, ny, fd) (ax, ay) (bx, b_y)) (segF (nx, ny, fd) (ax, ay) (bx, b_y)) ∧ Bel w w' := by
  by_cases h0 : farE (nx, ny, fd) [(ax, ay), (bx, b_y)] = 0
  · by_cases h1 : wiB (nx, ny, fd) (ax, ay) = true <;> by_cases h2 : wiB (nx, ny, fd) (bx, b_y) = true
    · have eS : segS (nx, ny, fd) (ax, ay) (bx, b_y) = [(ax, ay), (bx, b_y)] := by unfold segS; rw [if_pos h0, if_pos h1, if_pos h2]
      have eF : segF (nx, ny, fd) (ax, ay) (bx, b_y) = [0, 1] := by unfold segF; rw [if_pos h0, if_pos h1, if_pos h2]
      rw [eS, eF, h0]
      refine (seg_11 nx ny fd ax ay bx b_y w o1 o2 o3 oa ob oc od h0 h1 h2).mono fun e w' ⟨v, q, he, ⟨g, hv, _, hS, _⟩, _, _, c0, c1, _, hb⟩ => ⟨some ⟨g, 0, none⟩, some ⟨q, 0, none⟩, by rw [he, hv]; rfl, segC_two hS c0 c1, hb⟩
    · have h2' : wiB (nx, ny, fd) (bx, b_y) = false := by simpa using h2
      have eS : segS (nx, ny, fd) (ax, ay) (bx, b_y) = [(ax, ay), cuP (nx, ny, fd) (ax, ay) (bx, b_y)] := by unfold segS; rw [if_pos h0, if_pos h1, if_neg h2]
      have eF : segF (nx, ny, fd) (ax, ay) (bx, b_y) = [0, 2] := by unfold segF; rw [if_pos h0, if_pos h1, if_neg h2]
      rw [eS, eF, h0]
      refine (seg_10 nx ny fd ax ay bx b_y w o1 o2 o3 oa ob oc od h0 h1 h2').mono fun e w' ⟨v, q, he, ⟨g, hv, _, hS, _⟩, _, _, c0, c1, _, hb⟩ => ⟨some ⟨g, 0, none⟩, some ⟨q, 0, none⟩, by rw [he, hv]; rfl, segC_two hS c0 c1, hb⟩
    · have h1' : wiB (nx, ny, fd) (ax, ay) = false := by simpa using h1
      have eS : segS (nx, ny, fd) (ax, ay) (bx, b_y) = [cuP (nx, ny, fd) (ax, ay) (bx, b_y), (bx, b_y)] := by unfold segS; rw [if_pos h0, if_neg h1, if_pos h2]
      have eF : segF (nx, ny, fd) (ax, ay) (bx, b_y) = [2, 1] := by unfold segF; rw [if_pos h0, if_neg h1, if_pos h2]
      rw [eS, eF, h0]
      refine (seg_01 nx ny fd ax ay bx b_y w o1 o2 o3 oa ob oc od h0 h1' h2).mono fun e w' ⟨v, q, he, ⟨g, hv, _, hS, _⟩, _, _, c0, c1, _, hb⟩ => ⟨some ⟨g, 0, none⟩, some ⟨q, 0, none⟩, by rw [he, hv]; rfl, segC_two hS c0 c1, hb⟩
    · have h1' : wiB (nx, ny, fd) (ax, ay) = false := by simpa using h1
      have h2' : wiB (nx, ny, fd) (bx, b_y) = false := by simpa using h2
      have eF : segF (nx, ny, fd) (ax, ay) (bx, b_y) = [] := by unfold segF; rw [if_pos h0, if_neg h1, if_neg h2]
      rw [eF, h0]
      exact (seg_00 nx ny fd ax ay bx b_y w o1 o2 o3 oa ob oc od h0 h1' h2').mono fun e w' ⟨he, hb⟩ => ⟨none, none, he, (fun i hi => by cases hi), hb⟩
  · have eF : segF (nx, ny, fd) (ax, ay) (bx, b_y) = [] := by unfold segF; rw [if_neg h0]
    rw [eF]
    exact (seg_err nx ny fd ax ay bx b_y w o1 o2 o3 oa ob oc od h0).mono fun e w' ⟨he, hb⟩ => ⟨none, none, he, (fun i hi => by cases hi), hb⟩
/-- a row of so many places -/
def PtsC (w : World) (ma : Option Addr) (M : List Pt) : Prop := ∀ i, i < M.length → ∃ g, ma = some ⟨g, 0, none⟩ ∧ Sl w g 0 M.length (px M) (py M)
theorem PtsC.bel {w w' : World} {ma : Option Addr} {M : List Pt} (h : PtsC w ma M) (b : Bel w w') : PtsC w' ma M := fun i hi => by
  obtain ⟨g, e, hS⟩ := h i hi
  exact ⟨g, e, hS.bel b⟩
theorem poly_any (nx ny fd : Nat) (V : Value) (n : Nat) (xs ys : Nat → Nat) (w : World) (o1 : okK .f64 nx) (o2 : okK .f64 ny) (o3 : okK .f64 fd) (h : AnyS w V n xs ys) : Calls Try.prog 15 #[.agg #[.float .f64 nx, .float .f64 ny, .float .f64 fd], V] w fun e w' => ∃ ma, e = .returned (.tuple #[.slice ma (pgL (nx, ny, fd) xs ys n).length (pgL (nx, ny, fd) xs ys n).length, .int .i64 (pgE (nx, ny, fd) xs ys n)]) ∧ PtsC w' ma (pgL (nx, ny, fd) xs ys n) ∧ Bel w w' := by
  refine (polygon_d nx ny fd V n xs ys w o1 o2 o3 h).mono fun e w' ⟨v, he, hN, hb⟩ => ?_
  rcases hN with ⟨h1, h2⟩ | ⟨h0, g, h2, _, hS, _⟩
  · exact ⟨none, by rw [he, h2, h1]; rfl, (fun i hi => by rw [h1] at hi; cases hi), hb⟩
  · exact ⟨some ⟨g, 0, none⟩, by rw [he, h2], (fun i hi => ⟨g, rfl, hS⟩), hb⟩

end Go.Proofs.Ytpedpgpgcmhnoaa
