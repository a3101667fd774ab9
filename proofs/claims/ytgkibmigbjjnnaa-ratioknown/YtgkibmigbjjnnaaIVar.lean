/- A variable that holds a number; how great numbers get; lists of three. -/
import Derived.Test.YtgkibmigbjjnnaaILaw
import Derived.Test.YtgkibmigbjjnnaaBox
namespace Go.Proofs.Ytgkibmigbjjnnaa
open Go.RowKit

/-- a variable of the walk: its block, its cells, the number that they say -/
structure Var (w : World) (g : Nat) (s : Bool) (m : Option Addr) (n c : Nat) (z : Int) : Prop where
  box : Box w g (.bool s) (.slice m n c)
  int : IntAt w (.agg #[.bool s, .slice m n c]) z
theorem Var.step {w w' : World} {g : Nat} {s : Bool} {m : Option Addr} {n c : Nat} {z : Int} (h : Var w g s m n c z) (hb : Below w.heap.size w w') : Var w' g s m n c z := ⟨h.box.step hb, h.int.below hb⟩
theorem Var.drew {w : World} {g : Nat} {s : Bool} {m : Option Addr} {n c : Nat} {z : Int} (h : Var w g s m n c z) : Var w.drew g s m n c z := ⟨h.box.drew, h.int.drew⟩
theorem Var.keep {w : World} {g B : Nat} {s : Bool} {m : Option Addr} {n c : Nat} {z : Int} {x y : Value} (h : Var w g s m n c z) (hX : Box w B x y) (hx : ∀ z, x ≠ .int .u32 z) (hy : ∀ z, y ≠ .int .u32 z) (hne : B ≠ g) (x' y' : Value) : Var ((w.setCell ⟨B, 0, none⟩ x').setCell ⟨B, 1, none⟩ y') g s m n c z :=
  ⟨(h.box.set_ne hne _).set_ne hne _, h.int.keep (hX.keeps hx hy _ _)⟩
/-- of so many limbs at most -/
def SzI (k : Nat) (z : Int) : Prop := z.natAbs < BB ^ k
theorem SzI.mono {j k : Nat} {z : Int} (h : SzI j z) (hl : j ≤ k) : SzI k z := Nat.lt_of_lt_of_le h (Nat.pow_le_pow_right (by decide) hl)
theorem SzI.len {k : Nat} {z : Int} (h : SzI k z) (hk : k ≤ 1000000000) : (lim z.natAbs).length ≤ 1000000000 := Nat.le_trans (lim_length_le h) hk
theorem SzI.add {j k : Nat} {x y : Int} (h : SzI j x) (h' : SzI k y) : SzI (max j k + 1) (x + y) := by
  have h1 : x.natAbs < BB ^ max j k := h.mono (Nat.le_max_left _ _)
  have h2 : y.natAbs < BB ^ max j k := h'.mono (Nat.le_max_right _ _)
  unfold SzI
  rw [Nat.pow_succ]
  have : BB ^ max j k * 2 ≤ BB ^ max j k * BB := Nat.mul_le_mul_left _ (by decide)
  omega
theorem SzI.neg {k : Nat} {x : Int} (h : SzI k x) : SzI k (-x) := by unfold SzI at *; rwa [neg_abs]
theorem SzI.mul {j k : Nat} {x y : Int} (h : SzI j x) (h' : SzI k y) : SzI (j + k) (x * y) := by
  unfold SzI at *; rw [Nat.pow_add, Int.natAbs_mul]
  exact Nat.mul_lt_mul_of_lt_of_le h (Nat.le_of_lt h') (Nat.pow_pos (by decide))
theorem SzI.zero : SzI 0 0 := by unfold SzI; decide
theorem SzI.one : SzI 1 1 := by unfold SzI; decide
theorem SzI.of {b : Bool} {xs : List Nat} {k : Nat} (h : Ok xs) (hl : xs.length ≤ k) : SzI k (sg b (val xs)) := by
  unfold SzI; rw [sg_abs]
  exact Nat.lt_of_lt_of_le (val_lt h) (Nat.pow_le_pow_right (by decide) hl)

/-- three numbers laid down side by side -/
theorem ints_lit3 {w : World} {t : TypeId} {x y z : Int} {s1 s2 s3 : Bool} {m1 m2 m3 : Option Addr} {n1 n2 n3 c1 c2 c3 : Nat} (h1 : IntAt w (.agg #[.bool s1, .slice m1 n1 c1]) x) (h2 : IntAt w (.agg #[.bool s2, .slice m2 n2 c2]) y) (h3 : IntAt w (.agg #[.bool s3, .slice m3 n3 c3]) z) :
    Ints (w.alloc (.cells #[.bool s1, .slice m1 n1 c1, .bool s2, .slice m2 n2 c2, .bool s3, .slice m3 n3 c3] t)) (.slice (some ⟨w.heap.size, 0, none⟩) 3 3) [x, y, z] := by
  refine ⟨_, 3, rfl, by simp, by simp [maxLen], fun _ => ⟨w.heap.size, 0, rfl, fun i hi => ?_⟩⟩
  match i, hi with
  | 0, _ => exact ⟨s1, m1, c1, n1, by simp, by simp, h1.below (below_alloc _ _)⟩
  | 1, _ => exact ⟨s2, m2, c2, n2, by simp, by simp, h2.below (below_alloc _ _)⟩
  | 2, _ => exact ⟨s3, m3, c3, n3, by simp, by simp, h3.below (below_alloc _ _)⟩

end Go.Proofs.Ytgkibmigbjjnnaa
