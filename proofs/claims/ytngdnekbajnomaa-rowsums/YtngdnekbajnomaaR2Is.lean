/- swagelaw02.of and swagelaw02.is: a number as the program and as the document's answers have it; integer.Int's Limbs. -/
import Derived.Test.YtngdnekbajnomaaR2Limbs
import Derived.Test.YtngdnekbajnomaaILimbs
namespace Go.Proofs.Ytngdnekbajnomaa
open Go.RowKit

end Go.Proofs.Ytngdnekbajnomaa
