/- What the laws of layer 2 share: live answers true; long tells whether one of the numbers is long. -/
import Derived.Test.YtaoagilngfgjbacISum
namespace Go.Proofs.Ytaoagilngfgjbac
open Go.RowKit


end Go.Proofs.Ytaoagilngfgjbac
