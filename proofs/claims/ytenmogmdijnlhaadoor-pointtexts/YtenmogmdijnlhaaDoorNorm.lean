/- limb.Norm answers a new list, without the high noughts; limb.Cmp holds two numbers against each other. -/
import Derived.Test.YtenmogmdijnlhaaDoorMem
import Derived.Test.YtenmogmdijnlhaaDoorChecked
import Derived.BigQuiet
import Derived.WalkSmall
import Derived.Deep.QuietTactic
import Derived.Laws.AppendOwnNone
namespace Go.Proofs.YtenmogmdijnlhaaDoor
open Go.RowKit

end Go.Proofs.YtenmogmdijnlhaaDoor

namespace Go.Proofs.YtenmogmdijnlhaaDoor
open Go.RowKit

theorem lists_eq {xs ys : List Nat} (hl : xs.length = ys.length) (h : ∀ i, i < xs.length → lm xs i = lm ys i) : xs = ys := by
  apply List.ext_getElem hl
  intro i h1 h2
  have := h i h1
  rwa [lm_get _ _ h1, lm_get _ _ h2] at this

end Go.Proofs.YtenmogmdijnlhaaDoor

namespace Go.Proofs.YtenmogmdijnlhaaDoor
open Go.RowKit

theorem Tryd.info87 : (Tryd.prog.info? 87).map (fun i => (i.zero, i.size, i.bytes)) = some (some (.int .u32 0), 1, 4) := by kernel_rfl

/-- a new list of limbs -/
def Own (w : World) (base : Nat) (v : Value) (xs : List Nat) : Prop := w.ownsRow base 87 1 v xs.length (ints xs)

theorem Own.nums {w : World} {base : Nat} {v : Value} {xs : List Nat} (h : Own w base v xs) (ho : Ok xs) : Nums w v xs := nums_of_row ho rfl h

def cmpI (m n : Nat) : Int := if m < n then -1 else if n < m then 1 else 0

end Go.Proofs.YtenmogmdijnlhaaDoor
