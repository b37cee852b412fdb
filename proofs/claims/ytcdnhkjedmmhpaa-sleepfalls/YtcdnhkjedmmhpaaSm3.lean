/-
  What each function of package poly answers, and what the reference of its chapter answers: one contract a function, for every float: the answer stands in the relation of its formula to what was given; of the memory that was there nothing has turned.
-/
import Derived.Test.YtcdnhkjedmmhpaaVec
import Derived.Test.YtcdnhkjedmmhpaaSm2
import Derived.Below
import Derived.WalkKit
import Derived.WalkLawsBesides
import Derived.WalkSpells
import Derived.ProofKit
import Derived.OpenShut
import Derived.Deep.RegionHeld3
namespace Go.Proofs.Ytcdnhkjedmmhpaa
open Go.ChangeShapes Go.WideShapes Go.ChangeAt Go.RowKit
set_option linter.unusedVariables false
set_option linter.unusedSimpArgs false


theorem rest_E (n left need j g cap : Nat) (cc : Nat → Nat) (w : World) (hn1 : 1 ≤ n) (hn20 : n ≤ 20) (hnd1 : 1 ≤ need) (hnd : need ≤ 30) (hl : left = lfN need cc n) (hcc : ∀ i, cc i ≤ 30) (hgc : n + 1 ≤ cap) (hcm : cap ≤ maxLen) (hs : Sls w g 0 (n + 1) (fE n left cc j)) (ib io ic jb jo : Nat) (hic : n ≤ ic) (him : ic ≤ maxLen) (hin : Nts w ib io n) (hj : w.cell? ⟨jb, jo, none⟩ = some (.slice (some ⟨ib, io, none⟩) n ic)) : Calls Try.prog 24 #[.agg #[.float .f64 0, .float .f64 0, .float .f64 0, .int .i64 0, .float .f64 0, .float .f64 0, .float .f64 0, .float .f64 4607182418800017408, .float .f64 4607182418800017408, .int .i64 (need : Int), (.slice (some ⟨g, 0, none⟩) (n + 1) cap), .slice none 0 0, .slice none 0 0, .int .i64 0], .slice (some ⟨jb, jo, none⟩) 1 1] w fun e w' => ∃ g' cap' ts tn tc, n + 1 ≤ cap' ∧ cap' ≤ maxLen ∧ w.heap.size ≤ g' ∧ Sls w' g' 0 (n + 1) (fE n left cc (j + 1)) ∧ w'.there g' 0 ((n + 1) * 18) ∧ tn = (if j + 1 = left then n else 0) ∧ e = .returned (.tuple #[.agg #[.float .f64 0, .float .f64 0, .float .f64 0, .int .i64 0, .float .f64 0, .float .f64 0, .float .f64 0, .float .f64 4607182418800017408, .float .f64 4607182418800017408, .int .i64 (need : Int), (.slice (some ⟨g', 0, none⟩) (n + 1) cap'), .slice none 0 0, .slice none 0 0, .int .i64 0], .slice ts tn tc, .int .i64 0]) ∧ Bel w w' := by
  have hlp := lf_pos need cc n
  have hll := lf_le need cc hnd1 n
  have hcs : csB (need : Int) = true := by unfold csB; rw [decide_eq_true (by omega), decide_eq_true (by omega)]; rfl
  have hlv : ∀ i, i < n → (fE n left cc j i).l = true := fun i hi => by rw [fE_in hi]
  have hfr : ∀ i, i < n → (fE n left cc j i).k = 3 := fun i hi => by rw [fE_in hi]
  by_cases h1 : left ≤ j
  · refine (rest_asleep (need : Int) g 0 (n + 1) cap (some ⟨g, 0, none⟩) (fE n left cc j) ib io n ic (some ⟨ib, io, none⟩) jb jo 1 w (.inr rfl) hgc hcm hs (.inr rfl) hic him hin hj (by decide) hn1 (by omega) (by omega) hlv hfr hcs (by rw [fE_aw n left cc j hn1, decide_eq_true h1]; rfl)).mono ?_
    rintro e w' ⟨g', cap', p1, p2, p3, p4, p5, p6, p7⟩
    exact ⟨g', cap', none, 0, 0, p1, p2, p3, by rw [fE_stay n left cc j h1]; exact p4, p5, by rw [if_neg (by omega)], p6, p7⟩
  · have haw : awB (fE n left cc j) n = true := by rw [fE_aw n left cc j hn1, decide_eq_false h1]; rfl
    have hc0 : ∀ i, i < n → 0 ≤ (fE n left cc j i).c := fun i hi => by rw [fE_in hi]; simp only []; omega
    have hall := fE_all n left need cc j (by omega) (by omega) hcc
    have hsp := lf_spec need cc (j + 1) (by omega) n
    by_cases h2 : j + 1 = left
    · have hal : allB (fE n left cc j) (need : Int) n = true := hall.2 (hsp.1 (by omega))
      refine (rest_lull (need : Int) g 0 (n + 1) cap (some ⟨g, 0, none⟩) (fE n left cc j) ib io n ic (some ⟨ib, io, none⟩) jb jo 1 w (.inr rfl) hgc hcm hs (.inr rfl) hic him hin hj (by decide) hn1 (by omega) (by omega) hlv hfr hcs haw hc0 hal (fun i hi => by rw [fE_in hi]; simp only []; rw [decide_eq_false h1])).mono ?_
      rintro e w' ⟨g', cap', v, p1, p2, p3, p4, p5, p8, p6, p7⟩
      obtain ⟨g9, c9, rfl, -⟩ := own_evs p8 hn1
      exact ⟨g', cap', _, n, c9, p1, p2, p3, by rw [← fE_lul n left cc j h2 (by omega) hcc]; exact p4, p5, by rw [if_pos h2], p6, p7⟩
    · have hal : allB (fE n left cc j) (need : Int) n = false := by
        cases g9 : allB (fE n left cc j) (need : Int) n
        · rfl
        · exact absurd (hsp.2 (hall.1 g9)) (by omega)
      refine (rest_count (need : Int) g 0 (n + 1) cap (some ⟨g, 0, none⟩) (fE n left cc j) ib io n ic (some ⟨ib, io, none⟩) jb jo 1 w (.inr rfl) hgc hcm hs (.inr rfl) hic him hin hj (by decide) hn1 (by omega) (by omega) hlv hfr hcs haw hc0 hal).mono ?_
      rintro e w' ⟨g', cap', p1, p2, p3, p4, p5, p6, p7⟩
      exact ⟨g', cap', none, 0, 0, p1, p2, p3, by rw [← fE_cnt n left cc j (by omega) (by omega) hcc]; exact p4, p5, by rw [if_neg h2], p6, p7⟩

end Go.Proofs.Ytcdnhkjedmmhpaa
