/-
  What each function of package poly answers, and what the reference of its chapter answers: one contract a function, for every float: the answer stands in the relation of its formula to what was given; of the memory that was there nothing has turned.
-/
import Derived.Test.YtfohggiehbplkaaVec
import Derived.Test.YtfohggiehbplkaaWsd
import Derived.Test.YtfohggiehbplkaaWrp
import Derived.Below
import Derived.WalkKit
import Derived.WalkLawsBesides
import Derived.WalkSpells
import Derived.ProofKit
import Derived.OpenShut
import Derived.Deep.RegionHeld3
namespace Go.Proofs.Ytfohggiehbplkaa
open Go.ChangeShapes Go.WideShapes Go.ChangeAt Go.RowKit
set_option linter.unusedVariables false
set_option linter.unusedSimpArgs false


def Sl9 (w0 W : World) (a s : Bool) (v : Value) (cs : List Value) : Prop := a = true → ∃ p, v = .pointer (some ⟨p, 0, none⟩) ∧ w0.heap.size ≤ p ∧ W.there p 0 cs.length ∧ (s = true → W.rangeAt p 0 cs)
theorem Sl9.bel {w0 W W' : World} {a s : Bool} {v : Value} {cs : List Value} (h : Sl9 w0 W a s v cs) (g : Bel W W') : Sl9 w0 W' a s v cs := fun ha => by
  obtain ⟨p, e, n, t, r⟩ := h ha
  exact ⟨p, e, n, bel_there t g, fun hs => rng_bel (r hs) g⟩
theorem Sl9.far {w0 W : World} {a s : Bool} {v : Value} {cs ds : List Value} {q : Nat} (h : Sl9 w0 W a s v cs) (hne : a = true → v ≠ .pointer (some ⟨q, 0, none⟩)) : Sl9 w0 (W.setCells q 0 ds) a s v cs := fun ha => by
  obtain ⟨p, e, n, t, r⟩ := h ha
  have hpq : p ≠ q := fun e2 => hne ha (by rw [e, e2])
  exact ⟨p, e, n, World.there_setCells t _ _ _, fun hs => World.rangeAt_setCells_apart (r hs) _ _ _ (.inl hpq)⟩
theorem Sl9.old {w0 W : World} {a s : Bool} {v : Value} {cs : List Value} (h : Sl9 w0 W a s v cs) (hl : 0 < cs.length) (ha : a = true) : v ≠ .pointer (some ⟨W.heap.size, 0, none⟩) := fun e2 => by
  obtain ⟨p, e, n, t, r⟩ := h ha
  rw [e] at e2
  have e3 : p = W.heap.size := by injection e2 with e2; injection e2 with e2; injection e2
  have := (t 0 hl).1
  obtain ⟨u, hu⟩ := Option.isSome_iff_exists.1 this
  have lt := World.block_lt_of_cell? _ _ hu
  simp only at lt
  omega
theorem Sl9.mk {w0 W : World} {s : Bool} {cs : List Value} {c : Array Value} {t : TypeId} (hB : Bel w0 W) (hs : s = false) (hc : c.size = cs.length) : Sl9 w0 (W.alloc (.cells c t)) true s (.pointer (some ⟨W.heap.size, 0, none⟩)) cs := fun _ => by
  refine ⟨_, rfl, hB.size, ?_, fun h => by rw [hs] at h; cases h⟩
  have h := there_new W c.toList t
  rw [Array.length_toList, hc] at h
  exact h
structure J20 (w0 W : World) (a1 s1 a2 s2 a3 s3 : Bool) (v1 v2 v3 : Value) (c1 c2 c3 : List Value) : Prop where
  b : Bel w0 W
  x1 : Sl9 w0 W a1 s1 v1 c1
  x2 : Sl9 w0 W a2 s2 v2 c2
  x3 : Sl9 w0 W a3 s3 v3 c3
  n12 : a1 = true → a2 = true → v1 ≠ v2
  n13 : a1 = true → a3 = true → v1 ≠ v3
  n23 : a2 = true → a3 = true → v2 ≠ v3
theorem J20.bel {w0 W : World} {a1 s1 a2 s2 a3 s3 : Bool} {v1 v2 v3 : Value} {c1 c2 c3 : List Value} {W' : World} (h : J20 w0 W a1 s1 a2 s2 a3 s3 v1 v2 v3 c1 c2 c3) (g : Bel W W') : J20 w0 W' a1 s1 a2 s2 a3 s3 v1 v2 v3 c1 c2 c3 := ⟨bl_trans h.b g, h.x1.bel g, h.x2.bel g, h.x3.bel g, h.n12, h.n13, h.n23⟩
theorem J20.al1 {w0 W : World} {a1 s1 a2 s2 a3 s3 : Bool} {v1 v2 v3 : Value} {c1 c2 c3 : List Value} {c : Array Value} {t : TypeId} (h : J20 w0 W a1 s1 a2 s2 a3 s3 v1 v2 v3 c1 c2 c3) (hs : s1 = false) (hc : c.size = c1.length) (l2 : 0 < c2.length) (l3 : 0 < c3.length) : J20 w0 (W.alloc (.cells c t)) true s1 a2 s2 a3 s3 (.pointer (some ⟨W.heap.size, 0, none⟩)) v2 v3 c1 c2 c3 := ⟨bl_alloc h.b c t, Sl9.mk h.b hs hc, h.x2.bel (bl_alloc (bl_refl W) c t), h.x3.bel (bl_alloc (bl_refl W) c t), fun _ hb => (h.x2.old l2 hb).symm, fun _ hb => (h.x3.old l3 hb).symm, h.n23⟩
theorem J20.pu1 {w0 W : World} {a1 s1 a2 s2 a3 s3 : Bool} {v1 v2 v3 : Value} {c1 c2 c3 : List Value} (h : J20 w0 W a1 s1 a2 s2 a3 s3 v1 v2 v3 c1 c2 c3) (ha : a1 = true) : ∃ p, v1 = .pointer (some ⟨p, 0, none⟩) ∧ W.there p 0 c1.length ∧ J20 w0 (W.setCells p 0 c1) a1 true a2 s2 a3 s3 v1 v2 v3 c1 c2 c3 := by
  obtain ⟨p, e, n, t, r⟩ := h.x1 ha
  exact ⟨p, e, t, bel_setsJ _ _ h.b n, fun _ => ⟨p, e, n, World.there_setCells t _ _ _, fun _ => World.rangeAt_setCells_same _ _ _ _ t⟩, h.x2.far (fun hj => by rw [← e]; exact fun e3 => h.n12 ha hj e3.symm), h.x3.far (fun hj => by rw [← e]; exact fun e3 => h.n13 ha hj e3.symm), h.n12, h.n13, h.n23⟩
theorem J20.al2 {w0 W : World} {a1 s1 a2 s2 a3 s3 : Bool} {v1 v2 v3 : Value} {c1 c2 c3 : List Value} {c : Array Value} {t : TypeId} (h : J20 w0 W a1 s1 a2 s2 a3 s3 v1 v2 v3 c1 c2 c3) (hs : s2 = false) (hc : c.size = c2.length) (l1 : 0 < c1.length) (l3 : 0 < c3.length) : J20 w0 (W.alloc (.cells c t)) a1 s1 true s2 a3 s3 v1 (.pointer (some ⟨W.heap.size, 0, none⟩)) v3 c1 c2 c3 := ⟨bl_alloc h.b c t, h.x1.bel (bl_alloc (bl_refl W) c t), Sl9.mk h.b hs hc, h.x3.bel (bl_alloc (bl_refl W) c t), fun ha _ => h.x1.old l1 ha, h.n13, fun _ hb => (h.x3.old l3 hb).symm⟩
theorem J20.pu2 {w0 W : World} {a1 s1 a2 s2 a3 s3 : Bool} {v1 v2 v3 : Value} {c1 c2 c3 : List Value} (h : J20 w0 W a1 s1 a2 s2 a3 s3 v1 v2 v3 c1 c2 c3) (ha : a2 = true) : ∃ p, v2 = .pointer (some ⟨p, 0, none⟩) ∧ W.there p 0 c2.length ∧ J20 w0 (W.setCells p 0 c2) a1 s1 a2 true a3 s3 v1 v2 v3 c1 c2 c3 := by
  obtain ⟨p, e, n, t, r⟩ := h.x2 ha
  exact ⟨p, e, t, bel_setsJ _ _ h.b n, h.x1.far (fun hj => by rw [← e]; exact h.n12 hj ha), fun _ => ⟨p, e, n, World.there_setCells t _ _ _, fun _ => World.rangeAt_setCells_same _ _ _ _ t⟩, h.x3.far (fun hj => by rw [← e]; exact fun e3 => h.n23 ha hj e3.symm), h.n12, h.n13, h.n23⟩
theorem J20.al3 {w0 W : World} {a1 s1 a2 s2 a3 s3 : Bool} {v1 v2 v3 : Value} {c1 c2 c3 : List Value} {c : Array Value} {t : TypeId} (h : J20 w0 W a1 s1 a2 s2 a3 s3 v1 v2 v3 c1 c2 c3) (hs : s3 = false) (hc : c.size = c3.length) (l1 : 0 < c1.length) (l2 : 0 < c2.length) : J20 w0 (W.alloc (.cells c t)) a1 s1 a2 s2 true s3 v1 v2 (.pointer (some ⟨W.heap.size, 0, none⟩)) c1 c2 c3 := ⟨bl_alloc h.b c t, h.x1.bel (bl_alloc (bl_refl W) c t), h.x2.bel (bl_alloc (bl_refl W) c t), Sl9.mk h.b hs hc, h.n12, fun ha _ => h.x1.old l1 ha, fun ha _ => h.x2.old l2 ha⟩
theorem J20.pu3 {w0 W : World} {a1 s1 a2 s2 a3 s3 : Bool} {v1 v2 v3 : Value} {c1 c2 c3 : List Value} (h : J20 w0 W a1 s1 a2 s2 a3 s3 v1 v2 v3 c1 c2 c3) (ha : a3 = true) : ∃ p, v3 = .pointer (some ⟨p, 0, none⟩) ∧ W.there p 0 c3.length ∧ J20 w0 (W.setCells p 0 c3) a1 s1 a2 s2 a3 true v1 v2 v3 c1 c2 c3 := by
  obtain ⟨p, e, n, t, r⟩ := h.x3 ha
  exact ⟨p, e, t, bel_setsJ _ _ h.b n, h.x1.far (fun hj => by rw [← e]; exact h.n13 hj ha), h.x2.far (fun hj => by rw [← e]; exact h.n23 hj ha), fun _ => ⟨p, e, n, World.there_setCells t _ _ _, fun _ => World.rangeAt_setCells_same _ _ _ _ t⟩, h.n12, h.n13, h.n23⟩

end Go.Proofs.Ytfohggiehbplkaa
