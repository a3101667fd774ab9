/- limb.Sub answers a new list: the difference, or ErrRange. -/
import Derived.Test.YtapodkjmhenceaaAdd
import Derived.Laws.Bits64
namespace Go.Proofs.Ytapodkjmhenceaa
open Go.RowKit

/-- a difference's state behind k limbs: b is what was borrowed -/
structure SubAt (LA LB : List Nat) (k b : Nat) (acc : List Nat) : Prop where
  len : acc.length = k
  ok : Ok acc
  b1 : b ≤ 1
  sum : val acc + val (LB.take k) = val (LA.take k) + BB ^ k * b

theorem SubAt.zero (LA LB : List Nat) : SubAt LA LB 0 0 [] := ⟨rfl, Ok.nil, by omega, by simp [val]⟩

theorem SubAt.step {LA LB : List Nat} {k b d b' : Nat} {acc : List Nat} (h : SubAt LA LB k b acc) (hd : d < BB) (hb : b' ≤ 1) (e : d + b + lm LB k = lm LA k + BB * b') :
    SubAt LA LB (k + 1) b' (acc ++ [d]) := by
  refine ⟨by simp [h.len], h.ok.append (Ok.cons hd Ok.nil), hb, ?_⟩
  rw [take_succ_any, take_succ_any, val_append, h.len, Nat.pow_succ]
  simp only [val, Nat.mul_zero, Nat.add_zero]
  have hs := h.sum
  have e2 : BB ^ k * (d + b + lm LB k) = BB ^ k * (lm LA k + BB * b') := by rw [e]
  rw [Nat.mul_add, Nat.mul_add, Nat.mul_add, ← Nat.mul_assoc] at e2
  omega

theorem hide {p : Prop} (h : p) : Hid p := h

end Go.Proofs.Ytapodkjmhenceaa
