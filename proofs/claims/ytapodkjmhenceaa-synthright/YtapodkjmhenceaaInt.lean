/- Whole numbers with a sign: a sign and an amount; what a struct of the two says in memory. Nothing of the program. -/
import Derived.Test.YtapodkjmhenceaaMul
namespace Go.Proofs.Ytapodkjmhenceaa
open Go.RowKit

/-- the number of a sign and an amount -/
def sg (b : Bool) (n : Nat) : Int := if b then -(n : Int) else n
@[simp] theorem sg_true (n : Nat) : sg true n = -(n : Int) := rfl
@[simp] theorem sg_false (n : Nat) : sg false n = (n : Int) := rfl
theorem sg_zero (b : Bool) : sg b 0 = 0 := by cases b <;> rfl
theorem sg_abs (b : Bool) (n : Nat) : (sg b n).natAbs = n := by cases b <;> simp
theorem sg_mul (b c : Bool) (m n : Nat) : sg (b != c) (m * n) = sg b m * sg c n := by
  cases b <;> cases c <;> simp [Int.neg_mul, Int.mul_neg]
/-- the struct of a sign and of limbs, without high noughts: 0 has no sign -/
def IntAt (w : World) (v : Value) (z : Int) : Prop :=
  ∃ (b : Bool) (n : Nat) (a : Option Addr) (cap : Nat), v = .agg #[.bool b, .slice a (lim n).length cap] ∧ Nums w (.slice a (lim n).length cap) (lim n) ∧ z = sg b n ∧ (n = 0 → b = false)

theorem IntAt.mk {w : World} {b : Bool} {n : Nat} {l : Value} (h : Nums w l (lim n)) (h0 : n = 0 → b = false) : IntAt w (.agg #[.bool b, l]) (sg b n) := by
  have h' := h
  obtain ⟨_, a, cap, rfl, _, _, _⟩ := h'
  exact ⟨b, n, a, cap, rfl, h, rfl, h0⟩

theorem IntAt.below {w w' : World} {v : Value} {z : Int} (h : IntAt w v z) (hb : Below w.heap.size w w') : IntAt w' v z := by
  obtain ⟨b, n, a, cap, rfl, hn, rfl, h0⟩ := h
  exact ⟨b, n, a, cap, rfl, hn.below hb, rfl, h0⟩

theorem IntAt.drew {w : World} {v : Value} {z : Int} (h : IntAt w v z) : IntAt w.drew v z := h

/-- what reads as limbs in one world does so in the other -/
def Spares (w w' : World) : Prop := ∀ v xs, Nums w v xs → Nums w' v xs
theorem Spares.refl (w : World) : Spares w w := fun _ _ h => h
theorem Spares.trans {a b c : World} (h : Spares a b) (k : Spares b c) : Spares a c := fun v xs n => k v xs (h v xs n)
theorem Spares.of {w w' : World} (hb : Below w.heap.size w w') : Spares w w' := fun _ _ h => h.below hb
theorem Spares.alloc (w : World) (o : Obj) : Spares w (w.alloc o) := Spares.of (below_alloc w o)
theorem Spares.drew (w : World) : Spares w w.drew := fun _ _ h => h

/-- a cell that holds no limb may be written -/
theorem Spares.set {w : World} {g o : Nat} {c : Value} (hc : w.cell? ⟨g, o, none⟩ = some c) (hn : ∀ z, c ≠ .int .u32 z) (c' : Value) : Spares w (w.setCell ⟨g, o, none⟩ c') := by
  intro v xs h
  obtain ⟨ho, a, cap, rfl, h1, h2, h3⟩ := h
  refine ⟨ho, a, cap, rfl, h1, h2, fun hx => ?_⟩
  obtain ⟨b, off, rfl, hcell⟩ := h3 hx
  refine ⟨b, off, rfl, fun i hi => ?_⟩
  have hi' := hcell i hi
  rw [World.cell?_setCell_other]
  · exact hi'
  · intro e
    rw [e, hi'] at hc
    simp only [Option.some.injEq] at hc
    exact hn _ hc.symm

theorem IntAt.keep {w w' : World} {v : Value} {z : Int} (h : IntAt w v z) (k : Spares w w') : IntAt w' v z := by
  obtain ⟨b, n, a, cap, rfl, hn, rfl, h0⟩ := h
  exact ⟨b, n, a, cap, rfl, k _ _ hn, rfl, h0⟩

end Go.Proofs.Ytapodkjmhenceaa
