/- integer.Sum, integer.Product: all of a list together. -/
import Derived.Test.YtapodkjmhenceaaISmall
namespace Go.Proofs.Ytapodkjmhenceaa
open Go.RowKit

/-- a list of numbers in memory -/
def Ints (w : World) (v : Value) (zs : List Int) : Prop :=
  ∃ a cap, v = .slice a zs.length cap ∧ zs.length ≤ cap ∧ cap ≤ maxLen ∧ (zs ≠ [] → ∃ b off, a = some ⟨b, off, none⟩ ∧
    ∀ i, i < zs.length → ∃ s m c n, w.cell? ⟨b, off + i * 2, none⟩ = some (.bool s) ∧ w.cell? ⟨b, off + i * 2 + 1, none⟩ = some (.slice m n c) ∧ IntAt w (.agg #[.bool s, .slice m n c]) (zs.getD i 0))

theorem Ints.below {w w' : World} {v : Value} {zs : List Int} (h : Ints w v zs) (hb : Below w.heap.size w w') : Ints w' v zs := by
  obtain ⟨a, cap, rfl, h1, h2, h3⟩ := h
  refine ⟨a, cap, rfl, h1, h2, fun hx => ?_⟩
  obtain ⟨b, off, rfl, hc⟩ := h3 hx
  refine ⟨b, off, rfl, fun i hi => ?_⟩
  obtain ⟨s, m, c, n, k1, k2, k3⟩ := hc i hi
  exact ⟨s, m, c, n, (hb.cell (World.block_lt_of_cell? w _ k1)).trans k1, (hb.cell (World.block_lt_of_cell? w _ k2)).trans k2, k3.below hb⟩
theorem Ints.drew {w : World} {v : Value} {zs : List Int} (h : Ints w v zs) : Ints w.drew v zs := h
theorem Ints.nil (w : World) : Ints w (.slice none 0 0) [] := ⟨none, 0, rfl, Nat.le_refl _, Nat.zero_le _, fun h => absurd rfl h⟩

/-- the first k of a list, one behind the other -/
def accZ (f : Int → Int → Int) (z : Int) (zs : List Int) : Nat → Int
  | 0 => z
  | k + 1 => f (accZ f z zs k) (zs.getD k 0)

end Go.Proofs.Ytapodkjmhenceaa
