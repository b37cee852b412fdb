/-
  What each function of package poly answers, and what the reference of its chapter answers: one contract a function, for every float: the answer stands in the relation of its formula to what was given; of the memory that was there nothing has turned.
-/
import Derived.Test.YtfohggiehbplkaaVec
import Derived.Test.YtfohggiehbplkaaWrb
import Derived.Below
import Derived.WalkKit
import Derived.WalkLawsBesides
import Derived.WalkSpells
import Derived.ProofKit
import Derived.OpenShut
import Derived.Deep.RegionHeld3
namespace Go.Proofs.Ytfohggiehbplkaa
open Go.ChangeShapes Go.WideShapes Go.ChangeAt Go.RowKit
set_option linter.unusedVariables false
set_option linter.unusedSimpArgs false

theorem rng_put {w : World} {b k : Nat} {l : List Value} {v : Value} (h : w.rangeAt b 0 l) : (w.setCell ⟨b, k, none⟩ v).rangeAt b 0 (l.set k v) := fun j u hj => by
  rw [List.getElem?_set] at hj
  split at hj
  · rename_i e
    subst e
    split at hj
    · rename_i hk
      cases hj
      rw [Nat.zero_add]
      have h0 := h k _ (List.getElem?_eq_getElem hk)
      rw [Nat.zero_add] at h0
      exact World.cell?_setCell_same _ _ _ h0
    · cases hj
  · rename_i e
    rw [World.cell?_setCell_other _ _ _ _ (by intro q; injection q with _ q2; exact e (by omega))]
    exact h j u hj
theorem thr_put {w : World} {b k c n : Nat} {v : Value} (h : w.there b 0 n) : (w.setCell ⟨c, k, none⟩ v).there b 0 n := World.there_setCells h c k [v]
theorem wp_put_f {P : Program} {op : Oper} {a : Act} {w : World} {K : Act → World → Prop} {Q : Exit → Act → World → Prop} (ty : TypeId) (x y : Operand) (ho : op.op = .store ty x y) (b o m : Nat) (n : Nat) (hx : a.eval x = .pointer (some ⟨b, o, none⟩)) (hy : a.eval y = .float .f64 n) (ht : w.there b 0 m) (hk : o < m) (hi : (P.info? ty).map (·.size) = some 1)
    (I : World → Prop) (hI : I (w.setCell ⟨b, o, none⟩ (.float .f64 n))) (h : ∀ V, I V → K (a.put op.dst undef) V) : op.wp P a w K Q := by
  have c := ht o hk
  rw [Nat.zero_add] at c
  obtain ⟨u, hu⟩ := Option.isSome_iff_exists.1 c.1
  have q := run_store_float P
  unfold Oper.wp execOp
  cases hie : P.info? ty with
  | none => simp [hie] at hi
  | some ie =>
    simp only [hie, Option.map_some, Option.some.injEq] at hi
    simp only [ho, hx, hy, Instr.storeAt, Instr.sureAddr, Sem.run_bind, Sem.run_pure, Result.andThen_ok]
    simp [storeVar, sizeOf, typeInfo, hie, hi, go_sem, hu, c.2, q]
    exact h _ hI

theorem rng_put2 {w : World} {b : Nat} {x y : Value} {l : List Value} (h : w.rangeAt b 0 l) : (w.setCells b 2 [x, y]).rangeAt b 0 ((l.set 2 x).set 3 y) := rng_put (k := 3) (v := y) (rng_put (k := 2) (v := x) h)
theorem thr_sub {w : World} {b n o m : Nat} (h : w.there b 0 n) (hk : o + m ≤ n) : w.there b o m := fun j hj => by
  have := h (o + j) (by omega)
  rwa [Nat.zero_add] at this
theorem us_we {x : Nat} (o : okK .f64 x) (h : usB x = true) (g : leK .f64 0 x = true) : weB x = true := by unfold weB; rw [g, (us_num o h).bd.2.1]; rfl
theorem us_st {R : RD} {a b : SD} (h : UsP R a b) (oa : sok a) (ob : sok b) : stB a = true ∧ stB b = true := by
  unfold stB
  rw [us_we oa.1 (h.sti _ (by simp)) h.am, us_we oa.2.1 (h.sti _ (by simp)) h.ai, us_we ob.1 (h.sti _ (by simp)) h.bm, us_we ob.2.1 (h.sti _ (by simp)) h.bi]
  exact ⟨rfl, rfl⟩
theorem wt_bdW {R : RD} {a b : SD} (h : UsN R a b) : Bd 130 (wtF R a b) := by rw [wt_eqW h]; exact (wt_num h.fa h.fm h.fm0).1

end Go.Proofs.Ytfohggiehbplkaa
