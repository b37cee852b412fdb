/-
  What each function of package poly answers, and what the reference of its chapter answers: one contract a function, for every float: the answer stands in the relation of its formula to what was given; of the memory that was there nothing has turned.
-/
import Derived.Test.YtpedpgpgcmhnoaaVec
import Derived.Test.YtpedpgpgcmhnoaaPj
import Derived.Test.YtpedpgpgcmhnoaaClq
import Derived.Below
import Derived.Deep.DeepAppendWide
import Derived.WalkKit
import Derived.WalkLawsBesides
import Derived.WalkSpells
import Derived.ProofKit
import Derived.OpenShut
import Derived.Deep.RegionHeld3
namespace Go.Proofs.Ytpedpgpgcmhnoaa
open Go.ChangeShapes Go.WideShapes Go.ChangeAt Go.RowKit
set_option linter.unusedVariables false
set_option linter.unusedSimpArgs false

/-- points that lie somewhere, put behind a row of the call's own -/
theorem run_appw {base : Nat} {w : World} {v : Value} {L M : List Pt} (ty a ao c : Nat) (h : Own base w v L) (hs : Sl w a ao M.length (px M) (py M)) (hM : 0 < M.length) (hb : base ≤ w.heap.size) (hr : (L.length + M.length) * 16 ≤ 225000000000000) :
    ∃ v' w', (Builtin.append_ #[27, 27] ty #[v, .slice (some ⟨a, ao, none⟩) M.length c]).run Try.prog w = .ok v' w' ∧ Own base w' v' (L ++ M) ∧ ∀ W0, Bel W0 w → W0.heap.size ≤ base → Bel W0 w' := by
  obtain ⟨i0, hi, hz0, hz1, hz2⟩ := info_parts info_vec
  have hml : L.length + M.length ≤ maxLen := by unfold maxLen; omega
  have zs : ∀ k, (Builtin.zeroCells (.agg #[.float .f64 0, .float .f64 0] : Value).cells k).size = k * 2 := fun k => by rw [size_zeroCells]; rfl
  have grown : ∀ old, Own base (w.drew.alloc (.cells ((prRow (px L) (py L) L.length).toArray ++ (prRow (px M) (py M) M.length).toArray ++ Builtin.zeroCells (.agg #[.float .f64 0, .float .f64 0] : Value).cells (grownCap w (L.length + M.length) old 24 - (L.length + M.length))) 24)) (.slice (some ⟨w.heap.size, 0, none⟩) (L ++ M).length (grownCap w (L.length + M.length) old 24)) (L ++ M) := by
    intro old
    have hge := grownCap_ge w (L.length + M.length) old 24
    have hcm := grownCap_le_maxLen w (L.length + M.length) old 24 hml
    refine own_new (w := w.drew) hb (by rw [List.length_append]; exact hge) hcm ?_ (fun j hj => ?_)
    · simp only [Array.size_append, List.size_toArray, prRow_length, zs]
      omega
    · rw [List.length_append] at hj
      rw [Array.getElem?_append_left (by simp only [Array.size_append, List.size_toArray, prRow_length]; omega), ← prRow_app, ← List.getElem?_toArray]
      simp
  have belnew : ∀ cs W0, Bel W0 w → Bel W0 (w.drew.alloc (.cells cs 24)) := fun cs W0 h0 => bl_alloc (bl_drew h0) _ _
  rcases h with ⟨rfl, rfl⟩ | ⟨g, cap, rfl, h1, h2, h3, h4, h5, h6⟩
  · have hr' := run_append_nil (P := Try.prog) w 27 ty 24 i0 (.agg #[.float .f64 0, .float .f64 0]) Try.underlying27 hi hz0 ⟨a, ao, none⟩ M.length c (prRow (px M) (py M) M.length) (by rw [hz1, prRow_length]) (prRow_cells hs) hM (by omega) (by rw [hz2]; simp at hr; omega)
    have hg := grown 0
    simp only [List.length_nil, Nat.zero_add, List.nil_append] at hg
    refine ⟨_, _, hr', ?_, fun W0 h0 _ => belnew _ W0 h0⟩
    simpa [prRow] using hg
  · by_cases hroom : L.length + M.length ≤ cap
    · obtain ⟨r1, r2⟩ := run_app_room w ty g 0 L.length cap a ao M.length c _ _ hs hroom (fun j hj => by rw [Nat.zero_add]; exact h5 _ (by omega)) h6
      have mo : Mo g w (w.setCells g (0 + L.length * 2) (prRow (px M) (py M) M.length)) := (Mo.refl g w).sets _ _
      refine ⟨_, _, r1, .inr ⟨g, cap, by rw [List.length_append], h1, by rw [List.length_append]; exact hroom, h3, ?_, fun j hj => some_sets _ _ _ (h5 j hj), fun o => (mo.fz _).trans (h6 o)⟩, fun W0 h0 hw => mo.bel W0 h0 (by omega)⟩
      rw [List.length_append]
      refine Sl.join (n := L.length) (m := M.length) (us := px M) (vs := py M) (xs := px L) (ys := py L) (fun i hi => ?_) r2 (px_app1 _ _) (py_app1 _ _) (fun i _ => px_app2 _ _ i) (fun i _ => py_app2 _ _ i)
      obtain ⟨k1, k2⟩ := h4 i hi
      exact ⟨(World.cell?_setCells_out g _ _ _ ⟨g, 0 + i * 2, none⟩ (fun _ _ => .inl (by show 0 + i * 2 < 0 + L.length * 2; omega))).trans k1, (World.cell?_setCells_out g _ _ _ ⟨g, 0 + i * 2 + 1, none⟩ (fun _ _ => .inl (by show 0 + i * 2 + 1 < 0 + L.length * 2; omega))).trans k2⟩
    · have hr' := run_append_grow (P := Try.prog) w 27 ty 24 i0 (.agg #[.float .f64 0, .float .f64 0]) Try.underlying27 hi hz0 ⟨g, 0, none⟩ L.length cap (prRow (px L) (py L) L.length) (by rw [hz1, prRow_length]) (prRow_cells h4) ⟨a, ao, none⟩ M.length c (prRow (px M) (py M) M.length) (by rw [hz1, prRow_length]) (prRow_cells hs) (by omega) (by unfold maxLen at hml; omega) (by rw [hz2]; exact growslice_fits_wide (by omega) (by omega))
      have hg := grown cap
      rw [List.length_append] at hg
      exact ⟨_, _, hr', hg, fun W0 h0 _ => belnew _ W0 h0⟩
/-- 'append' in a walk -/
theorem wpList_appw {base : Nat} {w : World} {v : Value} {L M : List Pt} {ops : Array Oper} {rest : List Oper} {o : Oper} {a : Act} {Q : Exit → Act → World → Prop} (hgd : o.guard = none) (s x : Operand)
    (ho : o.op = .call { callee := .builtin .append, args := #[s, x], argTypes := #[27, 27] }) (hv : a.eval s = v) (b ao c : Nat) (hx : a.eval x = .slice (some ⟨b, ao, none⟩) M.length c)
    (h : Own base w v L) (hs : Sl w b ao M.length (px M) (py M)) (hM : 0 < M.length) (hb : base ≤ w.heap.size) (hr : (L.length + M.length) * 16 ≤ 225000000000000)
    (hK : ∀ v' w', Own base w' v' (L ++ M) → (∀ W0, Bel W0 w → W0.heap.size ≤ base → Bel W0 w') → wpList Try.prog ops Q rest (a.put o.dst v') w') : wpList Try.prog ops Q (o :: rest) a w := by
  obtain ⟨v', w', hrun, h1, h2⟩ := run_appw o.type b ao c h hs hM hb hr
  refine wpList_plain hgd fun K hK' => ?_
  unfold Oper.wp
  simp [execOp, ho, resolve, invoke, builtin, hv, hx, hrun, Result.andThen]
  exact hK' _ _ (hK v' w' h1 h2)

end Go.Proofs.Ytpedpgpgcmhnoaa
