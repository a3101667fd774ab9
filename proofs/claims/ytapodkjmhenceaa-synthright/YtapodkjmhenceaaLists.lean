/- Two lists of limbs that are one list. -/
import Derived.Test.YtapodkjmhenceaaTrim
import Derived.BigQuiet
import Derived.WalkSmall
import Derived.Deep.QuietTactic
namespace Go.Proofs.Ytapodkjmhenceaa
open Go.RowKit

theorem lists_eq {xs ys : List Nat} (hl : xs.length = ys.length) (h : ∀ i, i < xs.length → lm xs i = lm ys i) : xs = ys := by
  apply List.ext_getElem hl
  intro i h1 h2
  have := h i h1
  rwa [lm_get _ _ h1, lm_get _ _ h2] at this

end Go.Proofs.Ytapodkjmhenceaa
