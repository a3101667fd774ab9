/- limb.DivMod where the divisor is 0, has more limbs, or is one limb. -/
import Derived.Test.YtenmogmdijnlhaaDoorDivOwn
import Derived.Deep.RegionWith
namespace Go.Proofs.YtenmogmdijnlhaaDoor
open Go.RowKit

theorem Own.below {w w' : World} {base : Nat} {v : Value} {xs : List Nat} (h : Own w base v xs) (hb : Below w.heap.size w w') : Own w' base v xs := by
  unfold Own at *
  refine h.kept (row := none) ⟨hb.os, hb.tape, hb.output, hb.size, fun k hk _ => hb.block k hk⟩ ?_
  cases hv : v.ownBlock <;> simp



end Go.Proofs.YtenmogmdijnlhaaDoor
