/- The document's answers for layer 2 (swageref02): Make. -/
import Derived.Test.YtgkibmigbjjnnaaR2Norm
namespace Go.Proofs.Ytgkibmigbjjnnaa
open Go.RowKit

/-- each limb as two digits -/
def two : List Nat → List Nat
  | [] => []
  | x :: xs => x % 65536 :: x / 65536 :: two xs
/-- both cells of a block written anew: all limbs lie as they lay -/
theorem keeps2 {W : World} {B : Nat} {t : TypeId} {x y : Value} (h : Box2 W B t x y) (hx : ∀ z, x ≠ .int .u32 z) (hy : ∀ z, y ≠ .int .u32 z) (x' y' : Value) : Spares W ((W.setCell ⟨B, 0, none⟩ x').setCell ⟨B, 1, none⟩ y') :=
  (Spares.set h.cell0 hx x').trans (Spares.set (h.set0 x').cell1 hy y')
end Go.Proofs.Ytgkibmigbjjnnaa
