/-
  What each function of package poly answers, and what the reference of its chapter answers: one contract a function, for every float: the answer stands in the relation of its formula to what was given; of the memory that was there nothing has turned.
-/
import Derived.Test.YtdeooadeohojcaaGreatVec
import Derived.Test.YtdeooadeohojcaaGreatPj
import Derived.Test.YtdeooadeohojcaaGreatRa
import Derived.Below
import Derived.WalkKit
import Derived.WalkLawsBesides
import Derived.WalkSpells
import Derived.ProofKit
import Derived.OpenShut
import Derived.Deep.RegionHeld3
namespace Go.Proofs.YtdeooadeohojcaaGreat
open Go.ChangeShapes Go.WideShapes Go.ChangeAt Go.RowKit
set_option linter.unusedVariables false
set_option linter.unusedSimpArgs false


theorem rchk_any (V : Value) (n : Nat) (xs ys : Nat → Nat) (w : World) (h : AnyS w V n xs ys) : Calls Tryz.prog 74 #[V] w fun e w' => e = .returned (.int .i64 (chkE xs ys n)) ∧ Bel w w' := by
  obtain ⟨a, cap, rfl, a2, a3, a4, a5, a6⟩ := h
  rcases a6 with rfl | ⟨a0, b, off, rfl, sa⟩
  · rw [chk_zero]; exact rchk_none a cap w
  · exact rchk_some b off n cap xs ys w sa a5 a0 a3 a2
set_option maxHeartbeats 1000000 in
theorem rnormal_d (a ofa n ca : Nat) (us vs : Nat → Nat) (w : World) (hA : Sl w a ofa n us vs) (g : Gd us vs n) (ix : Nat) (hix : ix < n) (hn : n ≤ maxLen) (hcap : n ≤ ca) : Calls Tryz.prog 75 #[.slice (some ⟨a, ofa, none⟩) n ca, .int .i64 ix] w fun e w' => e = .returned (.agg #[.float .f64 (nX us vs n ix), .float .f64 (nY us vs n ix)]) ∧ Bel w w' := by
  obtain ⟨h3, h4⟩ := wX_bd g hix
  have h5 := bd_neg h3
  have o3 := h3.1
  have o4 := h4.1
  have hA1 := hA.bel (bl_alloc (bl_refl w) #[.float .f64 0, .float .f64 0] 24)
  go_enter Tryz.func75, Tryz.ntmps75
  go_wp2_with (first | (go_at_call 100; refine (way_d a ofa n ca us vs _ hA1 g ix hix hn hcap).mono ?_; rintro e w' ⟨rfl, hb⟩; have B := hb; obtain ⟨hc, hf⟩ := bcell B; have hz := B.size; (try simp at hz)) | (go_at_call 43; refine (rRight_any _ _ _ (by with_reducible assumption) (by with_reducible assumption)).mono ?_; rintro e w' ⟨rfl, hb⟩; clear hc hf hz; have B := bl_trans B hb; obtain ⟨hc, hf⟩ := bcell B; have hz := B.size; (try simp at hz)) | (go_at_call 61; refine (rUnit_d _ (by with_reducible assumption) (by with_reducible assumption) (by decide)).mono ?_; rintro e w' ⟨rfl, hb⟩; clear hc hf hz; have B := bl_trans B hb; obtain ⟨hc, hf⟩ := bcell B; have hz := B.size; (try simp at hz); have K0 := up_alloc (o := .cells #[.float .f64 (unX (wX vs n ix) (Op.negFloat .f64 (wX us n ix))), .float .f64 (unY (wX vs n ix) (Op.negFloat .f64 (wX us n ix)))] 24) (keep B (a := ⟨w.heap.size, 0, none⟩) (v := .float .f64 0) (by go_keep)); have Z0 := fz_alloc (W := w') (c := #[.float .f64 (unX (wX vs n ix) (Op.negFloat .f64 (wX us n ix))), .float .f64 (unY (wX vs n ix) (Op.negFloat .f64 (wX us n ix)))]) (t := 24) ((hf ⟨w.heap.size, 0, none⟩).trans (by simp [fresh_frozen])); have K1 := up_alloc (o := .cells #[.float .f64 (unX (wX vs n ix) (Op.negFloat .f64 (wX us n ix))), .float .f64 (unY (wX vs n ix) (Op.negFloat .f64 (wX us n ix)))] 24) (keep B (a := ⟨w.heap.size, 1, none⟩) (v := .float .f64 0) (by go_keep)); have Z1 := fz_alloc (W := w') (c := #[.float .f64 (unX (wX vs n ix) (Op.negFloat .f64 (wX us n ix))), .float .f64 (unY (wX vs n ix) (Op.negFloat .f64 (wX us n ix)))]) (t := 24) ((hf ⟨w.heap.size, 1, none⟩).trans (by simp [fresh_frozen]))))
  obtain ⟨R0, R1⟩ := set2 (p := .float .f64 (unX (wX vs n ix) (Op.negFloat .f64 (wX us n ix)))) (q := .float .f64 (unY (wX vs n ix) (Op.negFloat .f64 (wX us n ix)))) K0 K1
  refine bodyPost_ret (v := .agg #[.float .f64 _, .float .f64 _]) (by simp [R0, R1, results, Tryz.results75, go_sem] <;> (first | exact ⟨rfl, rfl⟩ | rfl)) rfl ⟨rfl, ?_⟩
  repeat (first | exact bl_refl _ | assumption | apply bl_drewN | apply bl_drew | apply bl_alloc | refine bl_set ?_ (by simp <;> omega) | refine bl_trans ?_ (by assumption))

end Go.Proofs.YtdeooadeohojcaaGreat
