/- A block of two cells. Nothing of the program. -/
import Derived.Test.YtheakienigmkhaaPBase
namespace Go.Proofs.Ytheakienigmkhaa
open Go.RowKit

/-- a block of two cells -/
def Box2 (W : World) (B : Nat) (t : TypeId) (x y : Value) : Prop := W.heap[B]? = some (.cells #[x, y] t (0, 0))
theorem Box2.cell0 {W : World} {B : Nat} {t : TypeId} {x y : Value} (h : Box2 W B t x y) : W.cell? ⟨B, 0, none⟩ = some x := by simp [World.cell?, show W.heap[B]? = _ from h]
theorem Box2.cell1 {W : World} {B : Nat} {t : TypeId} {x y : Value} (h : Box2 W B t x y) : W.cell? ⟨B, 1, none⟩ = some y := by simp [World.cell?, show W.heap[B]? = _ from h]
theorem Box2.free {W : World} {B : Nat} {t : TypeId} {x y : Value} (h : Box2 W B t x y) (o : Nat) : W.frozen? ⟨B, o, none⟩ = false := by simp [World.frozen?, show W.heap[B]? = _ from h]
theorem Box2.lt {W : World} {B : Nat} {t : TypeId} {x y : Value} (h : Box2 W B t x y) : B < W.heap.size := (Array.getElem?_eq_some_iff.1 h).1
theorem Box2.set0 {W : World} {B : Nat} {t : TypeId} {x y : Value} (h : Box2 W B t x y) (x' : Value) : Box2 (W.setCell ⟨B, 0, none⟩ x') B t x' y := by
  obtain ⟨hlt, hk⟩ := Array.getElem?_eq_some_iff.1 h
  show (W.heap.modify B _)[B]? = _
  rw [Array.getElem?_eq_getElem (by rw [Array.size_modify]; exact hlt), Array.getElem_modify_self, hk]
  simp
theorem Box2.set1 {W : World} {B : Nat} {t : TypeId} {x y : Value} (h : Box2 W B t x y) (y' : Value) : Box2 (W.setCell ⟨B, 1, none⟩ y') B t x y' := by
  obtain ⟨hlt, hk⟩ := Array.getElem?_eq_some_iff.1 h
  show (W.heap.modify B _)[B]? = _
  rw [Array.getElem?_eq_getElem (by rw [Array.size_modify]; exact hlt), Array.getElem_modify_self, hk]
  simp
theorem Box2.below {W W' : World} {B T : Nat} {t : TypeId} {x y : Value} (h : Box2 W B t x y) (hb : Below T W W') (hT : B < T) : Box2 W' B t x y := (hb.block B hT).trans h
theorem Box2.new (W : World) (t : TypeId) (x y : Value) : Box2 (W.alloc (.cells #[x, y] t)) W.heap.size t x y := heap_alloc_new _ _
theorem Box2.step {W W' : World} {B : Nat} {t : TypeId} {x y : Value} (h : Box2 W B t x y) (hb : Below W.heap.size W W') : Box2 W' B t x y := h.below hb h.lt
theorem Box2.drew {W : World} {B : Nat} {t : TypeId} {x y : Value} (h : Box2 W B t x y) : Box2 W.drew B t x y := h
theorem Box2.set_ne {W : World} {B C o : Nat} {t : TypeId} {x y : Value} (h : Box2 W B t x y) (hne : C ≠ B) (c : Value) : Box2 (W.setCell ⟨C, o, none⟩ c) B t x y := by
  show (W.heap.modify C _)[B]? = _
  rw [Array.getElem?_modify, if_neg hne]; exact h
end Go.Proofs.Ytheakienigmkhaa
