/- What the laws of layer 2 share: live answers true; long tells whether one of the numbers is long. -/
import Derived.Test.YtngdnekbajnomaaISum
namespace Go.Proofs.Ytngdnekbajnomaa
open Go.RowKit


end Go.Proofs.Ytngdnekbajnomaa
