/- integer.Int's Small: the number, if it is an int64. -/
import Derived.Test.YtapodkjmhenceaaIOf
import Derived.Laws.Bits64b
namespace Go.Proofs.Ytapodkjmhenceaa
open Go.RowKit

abbrev Fits (z : Int) : Prop := -9223372036854775808 ≤ z ∧ z < 9223372036854775808
def smallOf (z : Int) : Ending := .returned (.tuple #[.int .i64 (if Fits z then z else 0), .bool (decide (Fits z))])

end Go.Proofs.Ytapodkjmhenceaa
