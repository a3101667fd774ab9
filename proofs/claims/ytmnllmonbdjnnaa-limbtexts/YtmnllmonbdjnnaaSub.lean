/- limb.Sub answers a new list: the difference, or ErrRange. -/
import Derived.Test.YtmnllmonbdjnnaaAdd
import Derived.Laws.Bits64
namespace Go.Proofs.Ytmnllmonbdjnnaa
open Go.RowKit

/-- a difference's state behind k limbs: b is what was borrowed -/
structure SubAt (LA LB : List Nat) (k b : Nat) (acc : List Nat) : Prop where
  len : acc.length = k
  ok : Ok acc
  b1 : b ≤ 1
  sum : val acc + val (LB.take k) = val (LA.take k) + BB ^ k * b

theorem SubAt.zero (LA LB : List Nat) : SubAt LA LB 0 0 [] := ⟨rfl, Ok.nil, by omega, by simp [val]⟩

theorem SubAt.step {LA LB : List Nat} {k b d b' : Nat} {acc : List Nat} (h : SubAt LA LB k b acc) (hd : d < BB) (hb : b' ≤ 1) (e : d + b + lm LB k = lm LA k + BB * b') :
    SubAt LA LB (k + 1) b' (acc ++ [d]) := by
  refine ⟨by simp [h.len], h.ok.append (Ok.cons hd Ok.nil), hb, ?_⟩
  rw [take_succ_any, take_succ_any, val_append, h.len, Nat.pow_succ]
  simp only [val, Nat.mul_zero, Nat.add_zero]
  have hs := h.sum
  have e2 : BB ^ k * (d + b + lm LB k) = BB ^ k * (lm LA k + BB * b') := by rw [e]
  rw [Nat.mul_add, Nat.mul_add, Nat.mul_add, ← Nat.mul_assoc] at e2
  omega

theorem hide {p : Prop} (h : p) : Hid p := h

theorem sub_words (x b y : Nat) (hx : x < 4294967296) (hb : b ≤ 1) (hy : y < 4294967296) :
    ∃ d b' : Nat, d < BB ∧ b' ≤ 1 ∧ d + b + y = x + BB * b' ∧ IntKind.u64.wrap (IntKind.u64.wrap ((x : Int) - (b : Int)) - (y : Int)) / 9223372036854775808 = (b' : Int) ∧ IntKind.u64.wrap (IntKind.u64.wrap ((x : Int) - (b : Int)) - (y : Int)) % 4294967296 = (d : Int) := by
  rw [IntKind.wrap_u64, IntKind.wrap_u64]
  unfold BB
  by_cases h : b + y ≤ x
  · exact ⟨x - b - y, 0, by omega, by omega, by omega, by omega, by omega⟩
  · exact ⟨x + 4294967296 - b - y, 1, by omega, by omega, by omega, by omega, by omega⟩

theorem sub_words0 (x b : Nat) (hx : x < 4294967296) (hb : b ≤ 1) :
    ∃ d b' : Nat, d < BB ∧ b' ≤ 1 ∧ d + b + 0 = x + BB * b' ∧ IntKind.u64.wrap ((x : Int) - (b : Int)) / 9223372036854775808 = (b' : Int) ∧ IntKind.u64.wrap ((x : Int) - (b : Int)) % 4294967296 = (d : Int) := by
  rw [IntKind.wrap_u64]
  unfold BB
  by_cases h : b ≤ x
  · exact ⟨x - b, 0, by omega, by omega, by omega, by omega, by omega⟩
  · exact ⟨x + 4294967296 - b, 1, by omega, by omega, by omega, by omega, by omega⟩

theorem sub_next {w wr : World} {g k b d b' : Nat} {acc LA LB : List Nat} {s : Int} (hat : SubAt LA LB k b acc) (hlt : k < LA.length) (hg : w.heap.size ≤ g)
    (hrow : Row wr w.heap.size g LA.length (fil acc (LA.length - k))) (hbel : Below w.heap.size w wr) (hd : d < BB) (hb : b' ≤ 1) (e : d + b + lm LB k = lm LA k + BB * b') (e1 : s / 9223372036854775808 = (b' : Int)) (e2 : s % 4294967296 = (d : Int)) :
    ∃ (k' c' : Nat) (acc' : List Nat), k' ≤ LA.length ∧ Value.int .i64 (↑k + 1) = .int .i64 k' ∧ Value.int .u64 (s / 9223372036854775808) = .int .u64 c' ∧ SubAt LA LB k' c' acc' ∧
      Row (wr.setCell ⟨g, k, none⟩ (.int .u32 (s % 4294967296))) w.heap.size g LA.length (fil acc' (LA.length - k')) ∧ Below w.heap.size w (wr.setCell ⟨g, k, none⟩ (.int .u32 (s % 4294967296))) := by
  refine ⟨k + 1, _, _, hlt, by go_num, by rw [e1], hat.step hd hb e, ?_, hbel.setCell hg _⟩
  rw [e2]
  have := hrow.set k d
  have hr : LA.length - k = (LA.length - (k + 1)) + 1 := by omega
  rw [hr] at this
  have hl := hat.len
  subst hl
  rw [fil_set] at this
  exact this

theorem sub_last {LA LB acc : List Nat} {b : Nat} (hat : SubAt LA LB LA.length b acc) (hle : LB.length ≤ LA.length) (h : ¬ val LA < val LB) : val acc = val LA - val LB := by
  have hs := hat.sum
  rw [List.take_length, List.take_of_length_le hle] at hs
  have hv := val_lt hat.ok
  rw [hat.len] at hv
  have hb := hat.b1
  have : b = 0 := by
    by_cases e : b = 0
    · exact e
    · have : b = 1 := by omega
      subst this; omega
  subst this
  omega



end Go.Proofs.Ytmnllmonbdjnnaa
