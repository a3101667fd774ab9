/- The document's answers for layer 1 (swageref01): Add, MulSmall. -/
import Derived.Test.YtmibgcpafccliaaDoorRef
namespace Go.Proofs.YtmibgcpafccliaaDoor
open Go.RowKit

theorem AddAt.end {xs ys acc : List Nat} {k : Nat} (h : AddAt xs ys k 0 acc) (h1 : xs.length ≤ k) (h2 : ys.length ≤ k) : val acc = val xs + val ys := by
  have := h.sum
  rw [List.take_of_length_le h1, List.take_of_length_le h2] at this
  simpa using this

end Go.Proofs.YtmibgcpafccliaaDoor
