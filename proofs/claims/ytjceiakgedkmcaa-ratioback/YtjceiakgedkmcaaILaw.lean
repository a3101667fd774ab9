/- What the laws of layer 2 share: live answers true; long tells whether one of the numbers is long. -/
import Derived.Test.YtjceiakgedkmcaaISum
namespace Go.Proofs.Ytjceiakgedkmcaa
open Go.RowKit


end Go.Proofs.Ytjceiakgedkmcaa
