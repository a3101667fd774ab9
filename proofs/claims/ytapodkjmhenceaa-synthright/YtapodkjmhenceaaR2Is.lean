/- swagelaw02.of and swagelaw02.is: a number as the program and as the document's answers have it; integer.Int's Limbs. -/
import Derived.Test.YtapodkjmhenceaaR2Limbs
import Derived.Test.YtapodkjmhenceaaILimbs
namespace Go.Proofs.Ytapodkjmhenceaa
open Go.RowKit

end Go.Proofs.Ytapodkjmhenceaa
