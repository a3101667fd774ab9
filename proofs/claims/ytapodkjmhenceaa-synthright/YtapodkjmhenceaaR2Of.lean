/- swagelaw02.of: a number, as the program and as the document's answers have it; swageref02.Of. -/
import Derived.Test.YtapodkjmhenceaaR2Cmp
namespace Go.Proofs.Ytapodkjmhenceaa
open Go.RowKit

end Go.Proofs.Ytapodkjmhenceaa
