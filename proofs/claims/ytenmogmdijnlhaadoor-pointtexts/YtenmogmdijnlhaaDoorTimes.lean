/- limb.timesAnd makes of a list that is its own the number times c, and d; limb.MulSmall. -/
import Derived.Test.YtenmogmdijnlhaaDoorDivOwn
namespace Go.Proofs.YtenmogmdijnlhaaDoor
open Go.RowKit

/-- a product's state behind k limbs -/
structure TimesAt (xs : List Nat) (c d k q : Nat) (acc : List Nat) : Prop where
  len : acc.length = k
  ok : Ok acc
  q1 : q < BB
  sum : val acc + BB ^ k * q = c * val (xs.take k) + d

theorem TimesAt.zero (xs : List Nat) (c d : Nat) (hd : d < BB) : TimesAt xs c d 0 d [] := ⟨rfl, Ok.nil, hd, by simp [val]⟩

theorem TimesAt.step {xs : List Nat} {c d k q : Nat} {acc : List Nat} (h : TimesAt xs c d k q acc) (hx : lm xs k < BB) (hc : c < BB) :
    TimesAt xs c d (k + 1) ((q + lm xs k * c) / BB) (acc ++ [(q + lm xs k * c) % BB]) := by
  have hq := h.q1
  have hm := mul_bound _ _ hx hc
  refine ⟨by simp [h.len], h.ok.append (Ok.cons (Nat.mod_lt _ BB_pos) Ok.nil), ?_, ?_⟩
  · rw [Nat.div_lt_iff_lt_mul BB_pos]; unfold BB at *; omega
  · rw [take_succ_any, val_append, h.len, Nat.pow_succ]
    simp only [val, Nat.mul_zero, Nat.add_zero]
    have hs := h.sum
    have e : BB ^ k * ((q + lm xs k * c) % BB) + BB ^ k * BB * ((q + lm xs k * c) / BB) = BB ^ k * (q + lm xs k * c) := by
      rw [Nat.mul_assoc, ← Nat.mul_add, Nat.mod_add_div]
    have e2 : BB ^ k * (q + lm xs k * c) = BB ^ k * q + BB ^ k * (lm xs k * c) := Nat.mul_add _ _ _
    have e3 : c * (val (xs.take k) + BB ^ k * lm xs k) = c * val (xs.take k) + BB ^ k * (lm xs k * c) := by
      rw [Nat.mul_add, Nat.mul_left_comm, Nat.mul_comm c (lm xs k)]
    omega

end Go.Proofs.YtenmogmdijnlhaaDoor
