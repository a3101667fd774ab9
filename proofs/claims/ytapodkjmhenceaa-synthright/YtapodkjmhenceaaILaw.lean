/- What the laws of layer 2 share: live answers true; long tells whether one of the numbers is long. -/
import Derived.Test.YtapodkjmhenceaaISum
namespace Go.Proofs.Ytapodkjmhenceaa
open Go.RowKit


end Go.Proofs.Ytapodkjmhenceaa
