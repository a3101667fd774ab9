/- The document's answers for layer 2 (swageref02): Add, Sub. -/
import Derived.Test.YtapodkjmhenceaaR2Plus
namespace Go.Proofs.Ytapodkjmhenceaa
open Go.RowKit

/-- a number of the document's handed on: what stands behind it in the end -/
theorem rhanded {w w' : World} {g : Nat} {x y : Value} {z : Int} {b : Bool} {n : Nat} {a : Option Addr} {c : Nat} (hX : Box2 w' g 35 x y) (hx : ∀ z, x ≠ .int .u32 z) (hy : ∀ z, y ≠ .int .u32 z) (hg : w.heap.size ≤ g) (hB : Below w.heap.size w w')
    (hn : Nums w' (.slice a (D.lim n).length c) (D.lim n)) (he : z = sg b n) (h0 : n = 0 → b = false) :
    ∃ v, Ending.returned (.agg #[.bool b, .slice a (D.lim n).length c]) = .returned v ∧ RInt ((w'.setCell ⟨g, 0, none⟩ (.bool b)).setCell ⟨g, 1, none⟩ (.slice a (D.lim n).length c)) v z ∧ Below w.heap.size w ((w'.setCell ⟨g, 0, none⟩ (.bool b)).setCell ⟨g, 1, none⟩ (.slice a (D.lim n).length c)) :=
  ⟨_, rfl, ⟨b, n, a, c, rfl, keeps2 hX hx hy _ _ _ _ hn, he, h0⟩, (hB.setCell (p := ⟨g, 0, none⟩) hg _).setCell (p := ⟨g, 1, none⟩) hg _⟩

end Go.Proofs.Ytapodkjmhenceaa
