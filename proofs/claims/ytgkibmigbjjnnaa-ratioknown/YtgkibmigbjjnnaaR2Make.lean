/- The document's answers for layer 2 (swageref02): Make. -/
import Derived.Test.YtgkibmigbjjnnaaR2Norm
namespace Go.Proofs.Ytgkibmigbjjnnaa
open Go.RowKit

/-- each limb as two digits -/
def two : List Nat → List Nat
  | [] => []
  | x :: xs => x % 65536 :: x / 65536 :: two xs
end Go.Proofs.Ytgkibmigbjjnnaa
