/- What the laws of layer 2 share: live answers true; long tells whether one of the numbers is long. -/
import Derived.Test.YtgkibmigbjjnnaaISum
namespace Go.Proofs.Ytgkibmigbjjnnaa
open Go.RowKit


end Go.Proofs.Ytgkibmigbjjnnaa
