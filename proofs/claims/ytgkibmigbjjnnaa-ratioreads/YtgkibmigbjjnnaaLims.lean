/- Small numbers of limbs. Nothing of the program. -/
import Derived.Test.YtgkibmigbjjnnaaNum
namespace Go.Proofs.Ytgkibmigbjjnnaa
theorem ok1 {a : Nat} (h : a < BB) : Ok [a] := Ok.cons h Ok.nil
theorem ok2 {a b : Nat} (h : a < BB) (k : b < BB) : Ok [a, b] := Ok.cons h (Ok.cons k Ok.nil)
theorem lim1 {a : Nat} (h : a < BB) (h0 : a ≠ 0) : lim a = [a] := by
  have := lim_val (ok1 h) (by intro x hx; simp at hx; omega)
  simpa [val] using this
theorem lim2 {a b n : Nat} (h : a < BB) (k : b < BB) (h0 : b ≠ 0) (e : n = a + BB * b) : lim n = [a, b] := by
  have := lim_val (ok2 h k) (by intro x hx; simp at hx; omega)
  rw [e]; simpa [val] using this

end Go.Proofs.Ytgkibmigbjjnnaa
