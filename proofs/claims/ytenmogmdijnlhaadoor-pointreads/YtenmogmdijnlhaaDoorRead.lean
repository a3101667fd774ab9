/- limb.Read: the number of a text, or what is wrong with it. -/
import Derived.Test.YtenmogmdijnlhaaDoorFault
import Derived.Test.YtenmogmdijnlhaaDoorBox
import Derived.Test.YtenmogmdijnlhaaDoorDec
namespace Go.Proofs.YtenmogmdijnlhaaDoor
open Go.RowKit

/-- the number that the first k bytes say -/
def nv (s : ByteArray) : Nat → Nat
  | 0 => 0
  | k + 1 => nv s k * 10 + (bt s k - 48)

/-- what a text reads as -/
def Rd (s : ByteArray) (xs : List Nat) (a b : Nat) : Prop :=
  (65536 < s.size ∧ xs = [] ∧ a = 3 ∧ b = 65536) ∨ (s.size = 0 ∧ xs = [] ∧ a = 6 ∧ b = 0) ∨
  (s.size ≤ 65536 ∧ ∃ i, i < s.size ∧ Good s i ∧ ¬ Fine s i ∧ xs = [] ∧ a = 6 ∧ b = i) ∨
  (s.size ≤ 65536 ∧ 0 < s.size ∧ Good s s.size ∧ xs = lim (nv s s.size) ∧ a = 0 ∧ b = 0)
theorem Rd.same {s : ByteArray} {xs ys : List Nat} {a b c d : Nat} (h : Rd s xs a b) (k : Rd s ys c d) : xs = ys ∧ a = c ∧ b = d := by
  rcases h with ⟨h1, rfl, rfl, rfl⟩ | ⟨h1, rfl, rfl, rfl⟩ | ⟨h1, i, hi, hg, hb, rfl, rfl, rfl⟩ | ⟨h1, h2, hg, rfl, rfl, rfl⟩ <;>
  rcases k with ⟨k1, rfl, rfl, rfl⟩ | ⟨k1, rfl, rfl, rfl⟩ | ⟨k1, j, kj, kg, kb, rfl, rfl, rfl⟩ | ⟨k1, k2, kg, rfl, rfl, rfl⟩ <;>
  first | omega | exact ⟨rfl, rfl, rfl⟩ | exact ⟨rfl, rfl, hg.only hb kg kb⟩ | exact absurd (hg _ kj) kb | exact absurd (kg _ hi) hb

theorem nv_lt (s : ByteArray) (k : Nat) (h : Good s k) : nv s k < 10 ^ k := by
  induction k with
  | zero => simp [nv]
  | succ k ih =>
    have h1 := ih fun j hj => h j (by omega)
    have h2 := h k (by omega)
    have h3 := h2.lo
    have h4 := h2.hi
    simp only [nv]
    rw [pow_succ10]
    omega
/-- how many digits of a group have come, with r to go in all -/
def ge (r : Nat) : Nat := (9 - r % 9) % 9
/-- a text's state at the place k: so far N groups, and g -/
structure ReadAt (s : ByteArray) (k N g : Nat) : Prop where
  sum : nv s k = N * 10 ^ ge (s.size - k) + g
  lt : g < 10 ^ ge (s.size - k)
theorem ReadAt.start (s : ByteArray) : ReadAt s 0 0 0 := ⟨by simp [nv], Nat.pow_pos (by decide)⟩
theorem ReadAt.go {s : ByteArray} {k N g d : Nat} (h : ReadAt s k N g) (hk : k < s.size) (hd : bt s k = 48 + d) (h9 : d ≤ 9) (hm : (s.size - 1 - k) % 9 ≠ 0) : ReadAt s (k + 1) N (g * 10 + d) := by
  have e : ge (s.size - (k + 1)) = ge (s.size - k) + 1 := by unfold ge; omega
  have h1 := h.sum
  have h2 := h.lt
  refine ⟨?_, ?_⟩
  · rw [e, pow_succ10]; simp only [nv]; rw [h1, hd]
    generalize 10 ^ ge (s.size - k) = p
    rw [Nat.add_mul, Nat.mul_assoc, Nat.mul_comm p 10]; omega
  · rw [e, pow_succ10]; omega
theorem ReadAt.take {s : ByteArray} {k N g d : Nat} (h : ReadAt s k N g) (hk : k < s.size) (hd : bt s k = 48 + d) (h9 : d ≤ 9) (hm : (s.size - 1 - k) % 9 = 0) : ReadAt s (k + 1) (1000000000 * N + (g * 10 + d)) 0 := by
  have e : ge (s.size - k) = 8 := by unfold ge; omega
  have e' : ge (s.size - (k + 1)) = 0 := by unfold ge; omega
  have h1 := h.sum
  refine ⟨?_, by rw [e']; decide⟩
  rw [e'] ; simp only [nv]; rw [h1, hd, e]
  omega
theorem ReadAt.end {s : ByteArray} {N g : Nat} (h : ReadAt s s.size N g) : N = nv s s.size := by
  have h1 := h.sum
  have h2 := h.lt
  have e : ge (s.size - s.size) = 0 := by unfold ge; omega
  rw [e] at h1 h2
  omega
end Go.Proofs.YtenmogmdijnlhaaDoor
