/- Points: what norms are, and when two points are one. Nothing of the program. -/
import Derived.Test.YtenmogmdijnlhaaDoorPtNorm
namespace Go.Proofs.YtenmogmdijnlhaaDoor
open Go.RowKit

/-- what is asked of a norm, told by the numbers alone -/
def fineB (a b : Int) : Bool :=
  decide (-16 ≤ nA a b ∧ nA a b ≤ 16 ∧ -16 ≤ nB a b ∧ nB a b ≤ 16 ∧ nA (nA a b) (nB a b) = nA a b ∧ nB (nA a b) (nB a b) = nB a b ∧
    (¬ (a = 0 ∧ b = 0) → Int.gcd (nA a b) (nB a b) = 1 ∧ (0 < nB a b ∨ (nB a b = 0 ∧ nA a b = 1)) ∧ a = dsg a b * nA a b ∧ b = dsg a b * nB a b ∧ dsg a b ≠ 0))
def detI (a b c d : Int) : Int := a * d - c * b
def oneB (a b c d : Int) : Bool := decide (detI a b c d = 0) && (noB a b == noB c d)
/-- the document's way -/
def oneR (a b c d : Int) : Bool := if noB a b || noB c d then noB a b && noB c d else decide (detI a b c d = 0)
end Go.Proofs.YtenmogmdijnlhaaDoor
