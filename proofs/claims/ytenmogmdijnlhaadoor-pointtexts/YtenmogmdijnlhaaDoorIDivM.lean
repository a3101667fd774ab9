/- quotients and remainders of numbers with a sign. -/
import Derived.Test.YtenmogmdijnlhaaDoorPtrC
namespace Go.Proofs.YtenmogmdijnlhaaDoor
open Go.RowKit

theorem div_unique {x y q r : Int} (e : r + y * q = x) (h0 : 0 ≤ r) (h1 : r < y.natAbs) : x / y = q ∧ x % y = r := by
  by_cases hp : 0 < y
  · exact (Int.ediv_emod_unique hp).2 ⟨e, h0, by omega⟩
  · have h := (Int.ediv_emod_unique (a := x) (b := -y) (q := -q) (r := r) (by omega)).2 ⟨by rw [Int.neg_mul_neg]; exact e, h0, by omega⟩
    rw [Int.ediv_neg, Int.emod_neg] at h
    exact ⟨by omega, h.2⟩
theorem sg_split (b1 b2 : Bool) (n1 n2 : Nat) : sg b1 (n1 % n2) + sg b2 n2 * sg (b1 != b2) (n1 / n2) = sg b1 n1 := by
  rw [← sg_mul, show (b2 != (b1 != b2)) = b1 by cases b1 <;> cases b2 <;> rfl, ← sg_add, Nat.mod_add_div]
theorem div_plain (b1 b2 : Bool) (n1 n2 : Nat) (hy : 0 < n2) (hs : ¬ sg b1 (n1 % n2) < 0) : sg (b1 != b2) (n1 / n2) = sg b1 n1 / sg b2 n2 ∧ sg b1 (n1 % n2) = sg b1 n1 % sg b2 n2 := by
  have h := div_unique (y := sg b2 n2)  (sg_split b1 b2 n1 n2) (by omega) (by
    rw [sg_abs]; have := Nat.mod_lt n1 hy
    cases b1 <;> simp at * <;> omega)
  exact ⟨h.1.symm, h.2.symm⟩
theorem sgn_mul (y : Int) : y * sgnI y = y.natAbs := by
  unfold sgnI; split
  · omega
  · split <;> omega
theorem div_less (b1 b2 : Bool) (n1 n2 : Nat) (hy : 0 < n2) (hs : sg b1 (n1 % n2) < 0) : sg (b1 != b2) (n1 / n2) - sgnI (sg b2 n2) = sg b1 n1 / sg b2 n2 ∧ sg b1 (n1 % n2) + ((sg b2 n2).natAbs : Int) = sg b1 n1 % sg b2 n2 := by
  have hm := Nat.mod_lt n1 hy
  have h := div_unique (x := sg b1 n1) (y := sg b2 n2) (q := sg (b1 != b2) (n1 / n2) - sgnI (sg b2 n2)) (r := sg b1 (n1 % n2) + ((sg b2 n2).natAbs : Int)) 
    (by have := sg_split b1 b2 n1 n2; rw [Int.mul_sub, sgn_mul]; omega) (by rw [sg_abs]; cases b1 <;> simp at * <;> omega) (by rw [sg_abs]; omega)
  exact ⟨h.1.symm, h.2.symm⟩
theorem sgnI_lo (z : Int) : -9223372036854775808 ≤ sgnI z := by unfold sgnI; split; omega; split <;> omega
theorem sgnI_hi (z : Int) : sgnI z ≤ 9223372036854775807 := by unfold sgnI; split; omega; split <;> omega
end Go.Proofs.YtenmogmdijnlhaaDoor
