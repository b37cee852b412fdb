/-
  Plain facts on floats, more: rounding to the nearest rung, sums and products of finite floats, signs turned. No program is named here.
-/
import Derived.BigQuiet
import Derived.Test.YtoofbfjlgablkaaFlt
import Derived.Deep.Quiet
namespace Go.Proofs.Ytoofbfjlgablkaa
open Ieee Go.RowKit

/-! ### A region that draws its order, whose callees lay blocks of their own and answer one thing -/
/-- a world of which nothing that was in W has turned -/
structure BelBy (W : World) where
  world : World
  h : Bel W world
theorem belBy_some (W : World) : Nonempty (BelBy W) := ⟨⟨W, bl_refl W⟩⟩
theorem belBy_cell {W : World} {a : Addr} {v : Value} (h : W.cell? a = some v) (p : BelBy W) : p.world.cell? a = some v := (p.h.1.cell (World.block_lt_of_cell? W a h)).trans h
theorem wp_region_quiet_bel {P : Program} {id : Nat} {Q : Exit → Act → World → Prop} {a : Act} {w : World} {l : List Oper} (hm : P.follows .mixedOrders = true) (hB : Region.lexB .any l.toArray = true)
    (h : wpQuiet P l.toArray (fun w' => ∃ p : BelBy w, w' = p.world) (fun a' => ∀ w', (∃ p : BelBy w, w' = p.world) → Q .normal a' w') l a) : (Code.region id l.toArray true).wp P Q a w :=
  wp_region_quiet (C := fun w' => ∃ p : BelBy w, w' = p.world) hm hB ⟨⟨w.drew, bl_drew (bl_refl w)⟩, rfl⟩ (by simpa using h)
theorem calls_bel {P : Program} {f : FuncId} {args : Array Value} {W : World} {p : BelBy W} {v : Value}
    (h : Calls P f args p.world fun e w' => e = .returned v ∧ Bel p.world w') : Calls P f args p.world fun e w'' => e = .returned v ∧ ∃ q : BelBy W, w'' = q.world :=
  h.mono fun _ w' ⟨he, hb⟩ => ⟨he, ⟨w', bl_trans p.h hb⟩, rfl⟩
end Go.Proofs.Ytoofbfjlgablkaa
