/- The document's answers for layer 2 (swageref02): plus, minus. -/
import Derived.Test.YtapodkjmhenceaaR2Num
namespace Go.Proofs.Ytapodkjmhenceaa
open Go.RowKit

/-- a sum's state behind k digits -/
structure PlusAt (xs ys : List Nat) (k c : Nat) (acc : List Nat) : Prop where
  len : acc.length = k
  ok : D.Ok acc
  c1 : c ≤ 1
  sum : D.val acc + 65536 ^ k * c = D.val (xs.take k) + D.val (ys.take k)
theorem PlusAt.start (xs ys : List Nat) : PlusAt xs ys 0 0 [] := ⟨rfl, D.Ok.nil, by decide, by simp [D.val]⟩
theorem PlusAt.step {xs ys : List Nat} {k c : Nat} {acc : List Nat} (h : PlusAt xs ys k c acc) (hx : D.Ok xs) (hy : D.Ok ys) : PlusAt xs ys (k + 1) ((c + lm xs k + lm ys k) / 65536) (acc ++ [(c + lm xs k + lm ys k) % 65536]) := by
  have h1 := dlm_lt hx k
  have h2 := dlm_lt hy k
  have h3 := h.c1
  refine ⟨by rw [List.length_append, h.len]; rfl, h.ok.append (D.Ok.cons (Nat.mod_lt _ (by decide)) D.Ok.nil), by omega, ?_⟩
  rw [D.val_append, h.len, dtake_succ, dtake_succ, Nat.pow_succ]
  simp only [D.val, Nat.mul_zero, Nat.add_zero]
  show D.val acc + 65536 ^ k * ((c + lm xs k + lm ys k) % 65536) + 65536 ^ k * 65536 * ((c + lm xs k + lm ys k) / 65536) = _
  have e := Nat.mod_add_div (c + lm xs k + lm ys k) 65536
  have e1 : 65536 ^ k * ((c + lm xs k + lm ys k) % 65536) + 65536 ^ k * 65536 * ((c + lm xs k + lm ys k) / 65536) = 65536 ^ k * c + 65536 ^ k * lm xs k + 65536 ^ k * lm ys k := by
    rw [Nat.mul_assoc, ← Nat.mul_add, e, Nat.mul_add, Nat.mul_add]
  have := h.sum
  omega
theorem PlusAt.last {xs ys : List Nat} {k : Nat} {acc : List Nat} (h : PlusAt xs ys k 0 acc) (h1 : xs.length ≤ k) (h2 : ys.length ≤ k) : D.val acc = D.val xs + D.val ys := by
  have := h.sum
  rw [List.take_of_length_le h1, List.take_of_length_le h2] at this
  simpa using this

/-- a difference's state behind k digits -/
structure MinusAt (xs ys : List Nat) (k b : Nat) (acc : List Nat) : Prop where
  len : acc.length = k
  ok : D.Ok acc
  b1 : b ≤ 1
  sum : D.val acc + D.val (ys.take k) = D.val (xs.take k) + 65536 ^ k * b
theorem MinusAt.start (xs ys : List Nat) : MinusAt xs ys 0 0 [] := ⟨rfl, D.Ok.nil, by decide, by simp [D.val]⟩
theorem MinusAt.yes {xs ys : List Nat} {k b : Nat} {acc : List Nat} (h : MinusAt xs ys k b acc) (hx : D.Ok xs) (hy : D.Ok ys) (hlt : lm xs k < b + lm ys k) : MinusAt xs ys (k + 1) 1 (acc ++ [lm xs k + 65536 - (b + lm ys k)]) := by
  have h1 := dlm_lt hx k
  have h2 := dlm_lt hy k
  have h3 := h.b1
  refine ⟨by rw [List.length_append, h.len]; rfl, h.ok.append (D.Ok.cons (by unfold D.BB; omega) D.Ok.nil), by omega, ?_⟩
  rw [D.val_append, h.len, dtake_succ, dtake_succ, Nat.pow_succ]
  simp only [D.val, Nat.mul_zero, Nat.add_zero]
  show D.val acc + 65536 ^ k * (lm xs k + 65536 - (b + lm ys k)) + (D.val (ys.take k) + 65536 ^ k * lm ys k) = D.val (xs.take k) + 65536 ^ k * lm xs k + 65536 ^ k * 65536 * 1
  obtain ⟨d, hd⟩ : ∃ d, d + (b + lm ys k) = lm xs k + 65536 := ⟨lm xs k + 65536 - (b + lm ys k), by omega⟩
  rw [← hd, Nat.add_sub_cancel, Nat.mul_one]
  have e : 65536 ^ k * d + (65536 ^ k * b + 65536 ^ k * lm ys k) = 65536 ^ k * lm xs k + 65536 ^ k * 65536 := by rw [← Nat.mul_add, ← Nat.mul_add, hd, Nat.mul_add]
  have := h.sum
  omega
theorem MinusAt.no {xs ys : List Nat} {k b : Nat} {acc : List Nat} (h : MinusAt xs ys k b acc) (hx : D.Ok xs) (hy : D.Ok ys) (hlt : ¬ lm xs k < b + lm ys k) : MinusAt xs ys (k + 1) 0 (acc ++ [lm xs k - (b + lm ys k)]) := by
  have h1 := dlm_lt hx k
  have h2 := dlm_lt hy k
  refine ⟨by rw [List.length_append, h.len]; rfl, h.ok.append (D.Ok.cons (by unfold D.BB; omega) D.Ok.nil), by omega, ?_⟩
  rw [D.val_append, h.len, dtake_succ, dtake_succ]
  simp only [D.val, Nat.mul_zero, Nat.add_zero]
  show D.val acc + 65536 ^ k * (lm xs k - (b + lm ys k)) + (D.val (ys.take k) + 65536 ^ k * lm ys k) = D.val (xs.take k) + 65536 ^ k * lm xs k
  obtain ⟨d, hd⟩ : ∃ d, d + (b + lm ys k) = lm xs k := ⟨lm xs k - (b + lm ys k), by omega⟩
  rw [← hd, Nat.add_sub_cancel]
  have e : 65536 ^ k * d + (65536 ^ k * b + 65536 ^ k * lm ys k) = 65536 ^ k * (d + (b + lm ys k)) := by rw [← Nat.mul_add, ← Nat.mul_add]
  have := h.sum
  omega
theorem MinusAt.last {xs ys : List Nat} {b : Nat} {acc : List Nat} (h : MinusAt xs ys xs.length b acc) (hl : ys.length ≤ xs.length) (hle : D.val ys ≤ D.val xs) : D.val acc = D.val xs - D.val ys := by
  have h1 := h.sum
  rw [List.take_length, List.take_of_length_le hl] at h1
  have h2 := D.val_lt h.ok
  rw [h.len] at h2
  have h3 : D.BB ^ xs.length = 65536 ^ xs.length := rfl
  rcases Nat.le_one_iff_eq_zero_or_eq_one.1 h.b1 with e | e
  · rw [e, Nat.mul_zero] at h1; omega
  · rw [e, Nat.mul_one] at h1; omega

end Go.Proofs.Ytapodkjmhenceaa
