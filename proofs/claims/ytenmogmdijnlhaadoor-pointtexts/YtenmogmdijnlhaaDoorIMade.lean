/- integer.made and integer.Make: the number of a sign and of limbs. -/
import Derived.Test.YtenmogmdijnlhaaDoorInt
namespace Go.Proofs.YtenmogmdijnlhaaDoor
open Go.RowKit

/-- a block of two cells that hold a struct of a sign and of limbs -/
def Box (w : World) (g : Nat) (x y : Value) : Prop := w.heap[g]? = some (.cells #[x, y] 58 (0, 0))
theorem Box.cell0 {W : World} {B : Nat} {x y : Value} (h : Box W B x y) : W.cell? ⟨B, 0, none⟩ = some x := by simp [World.cell?, show W.heap[B]? = _ from h]
theorem Box.cell1 {W : World} {B : Nat} {x y : Value} (h : Box W B x y) : W.cell? ⟨B, 1, none⟩ = some y := by simp [World.cell?, show W.heap[B]? = _ from h]
theorem Box.free {W : World} {B : Nat} {x y : Value} (h : Box W B x y) (o : Nat) : W.frozen? ⟨B, o, none⟩ = false := by simp [World.frozen?, show W.heap[B]? = _ from h]
theorem Box.lt {W : World} {B : Nat} {x y : Value} (h : Box W B x y) : B < W.heap.size := (Array.getElem?_eq_some_iff.1 h).1
theorem Box.set0 {W : World} {B : Nat} {x y : Value} (h : Box W B x y) (x' : Value) : Box (W.setCell ⟨B, 0, none⟩ x') B x' y := by
  obtain ⟨hlt, hk⟩ := Array.getElem?_eq_some_iff.1 h
  show (W.heap.modify B _)[B]? = _
  rw [Array.getElem?_eq_getElem (by rw [Array.size_modify]; exact hlt), Array.getElem_modify_self, hk]
  simp
theorem Box.set1 {W : World} {B : Nat} {x y : Value} (h : Box W B x y) (y' : Value) : Box (W.setCell ⟨B, 1, none⟩ y') B x y' := by
  obtain ⟨hlt, hk⟩ := Array.getElem?_eq_some_iff.1 h
  show (W.heap.modify B _)[B]? = _
  rw [Array.getElem?_eq_getElem (by rw [Array.size_modify]; exact hlt), Array.getElem_modify_self, hk]
  simp
theorem Box.below {W W' : World} {B T : Nat} {x y : Value} (h : Box W B x y) (hb : Below T W W') (hT : B < T) : Box W' B x y := (hb.block B hT).trans h
theorem Box.step {W W' : World} {B : Nat} {x y : Value} (h : Box W B x y) (hb : Below W.heap.size W W') : Box W' B x y := h.below hb h.lt
theorem Box.drew {W : World} {B : Nat} {x y : Value} (h : Box W B x y) : Box W.drew B x y := h
theorem Box.new (W : World) (x y : Value) : Box (W.alloc (.cells #[x, y] 58)) W.heap.size x y := heap_alloc_new _ _
theorem Box.set_ne {W : World} {B C o : Nat} {x y : Value} (h : Box W B x y) (hne : C ≠ B) (c : Value) : Box (W.setCell ⟨C, o, none⟩ c) B x y := by
  show (W.heap.modify C _)[B]? = _
  rw [Array.getElem?_modify, if_neg hne]; exact h
/-- both cells of a block written anew: all limbs lie as they lay -/
theorem Box.keeps {W : World} {B : Nat} {x y : Value} (h : Box W B x y) (hx : ∀ z, x ≠ .int .u32 z) (hy : ∀ z, y ≠ .int .u32 z) (x' y' : Value) : Spares W ((W.setCell ⟨B, 0, none⟩ x').setCell ⟨B, 1, none⟩ y') :=
  (Spares.set h.cell0 hx x').trans (Spares.set (h.set0 x').cell1 hy y')

end Go.Proofs.YtenmogmdijnlhaaDoor
