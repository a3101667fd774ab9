/- The document's answers for layer 2 (swageref02): DivMod. -/
import Derived.Test.YtgkibmigbjjnnaaR2Divide
import Derived.Test.YtgkibmigbjjnnaaIDiv
import Derived.Test.YtgkibmigbjjnnaaIRead
namespace Go.Proofs.Ytgkibmigbjjnnaa
open Go.RowKit

theorem RInt.cells {w : World} {v : Value} {z : Int} (h : RInt w v z) : ∃ s m n c, v = .agg #[.bool s, .slice m n c] ∧ RInt w (.agg #[.bool s, .slice m n c]) z := by
  have h' := h
  obtain ⟨s, n, m, c, rfl, _, _, _⟩ := h'
  exact ⟨s, m, _, c, rfl, h⟩
theorem RInt.neg {w : World} {s : Bool} {l : Value} {z : Int} (h : RInt w (.agg #[.bool s, l]) z) : (s = true → z < 0) ∧ (z < 0 → s = true) := by
  obtain ⟨b, n, a, c, he, _, rfl, h0⟩ := h
  simp only [Value.agg.injEq, Array.mk.injEq, List.cons.injEq, Value.bool.injEq, and_true] at he
  obtain ⟨rfl, _⟩ := he
  cases s with
  | true => have : n ≠ 0 := fun e => absurd (h0 e) (by decide)
            rw [sg_true]; exact ⟨fun _ => by omega, fun _ => rfl⟩
  | false => rw [sg_false]; exact ⟨fun h => absurd h (by decide), fun h => by omega⟩
end Go.Proofs.Ytgkibmigbjjnnaa
