/- integer.Int's Small: the number, if it is an int64. -/
import Derived.Test.YtgkibmigbjjnnaaIOf
import Derived.Laws.Bits64b
namespace Go.Proofs.Ytgkibmigbjjnnaa
open Go.RowKit

abbrev Fits (z : Int) : Prop := -9223372036854775808 ≤ z ∧ z < 9223372036854775808
def smallOf (z : Int) : Ending := .returned (.tuple #[.int .i64 (if Fits z then z else 0), .bool (decide (Fits z))])

theorem lim_two {n : Nat} (h : (lim n).length ≤ 2) : n < 18446744073709551616 := by
  have := val_lt (ok_lim n)
  rw [val_lim] at this
  exact Nat.lt_of_lt_of_le this (Nat.le_trans (Nat.pow_le_pow_right BB_pos h) (by decide))
theorem lim_more {n : Nat} (h : ¬ (lim n).length ≤ 2) : 18446744073709551616 ≤ n := by
  rcases Nat.lt_or_ge n 18446744073709551616 with h' | h'
  · exact absurd (lim_length_le (k := 2) (by simpa [BB] using h')) h
  · exact h'

theorem smallOf_yes {z : Int} (h : Fits z) : smallOf z = .returned (.tuple #[.int .i64 z, .bool true]) := by unfold smallOf; rw [if_pos h, decide_eq_true h]
theorem smallOf_no {z : Int} (h : ¬ Fits z) : smallOf z = .returned (.tuple #[.int .i64 0, .bool false]) := by unfold smallOf; rw [if_neg h, decide_eq_false h]
theorem or_none (x : Nat) (hx : x < 4294967296) : bits .or .u64 0 (x : Int) = (x : Int) := by
  have := bits_or_u64_nat 0 x (by omega) (by omega)
  rw [Nat.zero_or] at this; exact this
theorem or_high (q x : Nat) (hq : q < 4294967296) (hx : x < 4294967296) : bits .or .u64 (q : Int) ((x : Int) * 4294967296) = ((q + BB ^ 1 * x : Nat) : Int) := by
  have := bits_or_u64_nat q (x * 4294967296) (by omega) (by omega)
  rw [show ((x * 4294967296 : Nat) : Int) = (x : Int) * 4294967296 from by rw [Int.natCast_mul]; rfl] at this
  rw [this]
  have e : q ||| x * 4294967296 = q + BB ^ 1 * x := by
    have := Nat.two_pow_add_eq_or_of_lt (i := 32) (b := q) (by omega) x
    rw [show (2 : Nat) ^ 32 = 4294967296 from by decide] at this
    rw [Nat.or_comm, Nat.mul_comm x, ← this, Nat.pow_one]; unfold BB; omega
  rw [e]

end Go.Proofs.Ytgkibmigbjjnnaa
