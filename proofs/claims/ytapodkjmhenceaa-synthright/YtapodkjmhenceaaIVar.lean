/- A variable that holds a number; how great numbers get; lists of three. -/
import Derived.Test.YtapodkjmhenceaaILaw
import Derived.Test.YtapodkjmhenceaaBox
namespace Go.Proofs.Ytapodkjmhenceaa
open Go.RowKit

/-- a variable of the walk: its block, its cells, the number that they say -/
structure Var (w : World) (g : Nat) (s : Bool) (m : Option Addr) (n c : Nat) (z : Int) : Prop where
  box : Box w g (.bool s) (.slice m n c)
  int : IntAt w (.agg #[.bool s, .slice m n c]) z
theorem Var.step {w w' : World} {g : Nat} {s : Bool} {m : Option Addr} {n c : Nat} {z : Int} (h : Var w g s m n c z) (hb : Below w.heap.size w w') : Var w' g s m n c z := ⟨h.box.step hb, h.int.below hb⟩
theorem Var.drew {w : World} {g : Nat} {s : Bool} {m : Option Addr} {n c : Nat} {z : Int} (h : Var w g s m n c z) : Var w.drew g s m n c z := ⟨h.box.drew, h.int.drew⟩
theorem Var.keep {w : World} {g B : Nat} {s : Bool} {m : Option Addr} {n c : Nat} {z : Int} {x y : Value} (h : Var w g s m n c z) (hX : Box w B x y) (hx : ∀ z, x ≠ .int .u32 z) (hy : ∀ z, y ≠ .int .u32 z) (hne : B ≠ g) (x' y' : Value) : Var ((w.setCell ⟨B, 0, none⟩ x').setCell ⟨B, 1, none⟩ y') g s m n c z :=
  ⟨(h.box.set_ne hne _).set_ne hne _, h.int.keep (hX.keeps hx hy _ _)⟩
/-- of so many limbs at most -/
def SzI (k : Nat) (z : Int) : Prop := z.natAbs < BB ^ k
theorem SzI.mono {j k : Nat} {z : Int} (h : SzI j z) (hl : j ≤ k) : SzI k z := Nat.lt_of_lt_of_le h (Nat.pow_le_pow_right (by decide) hl)
theorem SzI.len {k : Nat} {z : Int} (h : SzI k z) (hk : k ≤ 1000000000) : (lim z.natAbs).length ≤ 1000000000 := Nat.le_trans (lim_length_le h) hk
theorem SzI.add {j k : Nat} {x y : Int} (h : SzI j x) (h' : SzI k y) : SzI (max j k + 1) (x + y) := by
  have h1 : x.natAbs < BB ^ max j k := h.mono (Nat.le_max_left _ _)
  have h2 : y.natAbs < BB ^ max j k := h'.mono (Nat.le_max_right _ _)
  unfold SzI
  rw [Nat.pow_succ]
  have : BB ^ max j k * 2 ≤ BB ^ max j k * BB := Nat.mul_le_mul_left _ (by decide)
  omega
theorem SzI.neg {k : Nat} {x : Int} (h : SzI k x) : SzI k (-x) := by unfold SzI at *; rwa [neg_abs]
theorem SzI.mul {j k : Nat} {x y : Int} (h : SzI j x) (h' : SzI k y) : SzI (j + k) (x * y) := by
  unfold SzI at *; rw [Nat.pow_add, Int.natAbs_mul]
  exact Nat.mul_lt_mul_of_lt_of_le h (Nat.le_of_lt h') (Nat.pow_pos (by decide))
theorem SzI.zero : SzI 0 0 := by unfold SzI; decide
theorem SzI.one : SzI 1 1 := by unfold SzI; decide
theorem SzI.of {b : Bool} {xs : List Nat} {k : Nat} (h : Ok xs) (hl : xs.length ≤ k) : SzI k (sg b (val xs)) := by
  unfold SzI; rw [sg_abs]
  exact Nat.lt_of_lt_of_le (val_lt h) (Nat.pow_le_pow_right (by decide) hl)

theorem nboxes2 (t : TypeId) (w : World) (x y x' y' : Value) : Box2 ((w.alloc (.cells #[x, y] t)).alloc (.cells #[x', y'] t)) w.heap.size t x y ∧ Box2 ((w.alloc (.cells #[x, y] t)).alloc (.cells #[x', y'] t)) (w.heap.size + 1) t x' y' ∧ Below w.heap.size w ((w.alloc (.cells #[x, y] t)).alloc (.cells #[x', y'] t)) :=
  ⟨(Box2.new _ _ _ _).step (below_alloc _ _), by have := Box2.new (w.alloc (.cells #[x, y] t)) t x' y'; rwa [World.size_alloc] at this, (below_alloc _ _).trans ((below_alloc _ _).mono (by simp))⟩
theorem nboxes3 (t : TypeId) (w : World) (x y x' y' x'' y'' : Value) : Box2 (((w.alloc (.cells #[x, y] t)).alloc (.cells #[x', y'] t)).alloc (.cells #[x'', y''] t)) w.heap.size t x y ∧ Box2 (((w.alloc (.cells #[x, y] t)).alloc (.cells #[x', y'] t)).alloc (.cells #[x'', y''] t)) (w.heap.size + 1) t x' y' ∧
    Box2 (((w.alloc (.cells #[x, y] t)).alloc (.cells #[x', y'] t)).alloc (.cells #[x'', y''] t)) (w.heap.size + 1 + 1) t x'' y'' ∧ Below w.heap.size w (((w.alloc (.cells #[x, y] t)).alloc (.cells #[x', y'] t)).alloc (.cells #[x'', y''] t)) :=
  ⟨(nboxes2 t w x y x' y').1.step (below_alloc _ _), (nboxes2 t w x y x' y').2.1.step (below_alloc _ _), by have := Box2.new ((w.alloc (.cells #[x, y] t)).alloc (.cells #[x', y'] t)) t x'' y''; rwa [World.size_alloc, World.size_alloc] at this, (nboxes2 t w x y x' y').2.2.trans ((below_alloc _ _).mono (by simp; omega))⟩

end Go.Proofs.Ytapodkjmhenceaa
