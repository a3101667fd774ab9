/- The document's answers for layer 2 (swageref02): Limbs. -/
import Derived.Test.YtapodkjmhenceaaR2Make
namespace Go.Proofs.Ytapodkjmhenceaa
open Go.RowKit

/-- one more limb behind what is owned -/
theorem own_step {w5 w6 w1 : World} {base T : Nat} {v5 v6 : Value} {acc : List Nat} {x : Int} {n : Nat} (hx : x = (n : Int)) {o : Obj} (hO : Own w5 base v5 acc)
    (hown6 : w6.ownsRow base 108 1 v6 (acc.length + 1) (ints acc ++ [Value.int .u32 x])) (hgrow6 : (w5.alloc o).grownBy w6 v5.ownBlock) (hB5 : Below T w1 w5) (hT : T ≤ w5.heap.size) (hb : T ≤ base) :
    Own w6 base v6 (acc ++ [n]) ∧ Below T w1 w6 := by
  constructor
  · subst hx
    have e1 : ints acc ++ [Value.int .u32 (n : Int)] = ints (acc ++ [n]) := by simp [ints]
    rw [e1] at hown6
    show World.ownsRow _ _ _ _ _ _ _; simpa using hown6
  · exact (hB5.alloc hT o).grown hgrow6 (by simp; omega) (fun k hk => Nat.le_trans hb (hO.lt k hk).1)

/-- two digits a limb -/
def jnd (ds : List Nat) (k : Nat) : List Nat := (List.range k).map fun j => lm ds (2 * j) + 65536 * lm ds (2 * j + 1)
theorem dlm_lt {ds : List Nat} (h : D.Ok ds) (i : Nat) : lm ds i < 65536 := h.at i
theorem dtake_succ (ds : List Nat) (k : Nat) : D.val (ds.take (k + 1)) = D.val (ds.take k) + 65536 ^ k * lm ds k := by
  by_cases h : k < ds.length
  · exact D.take_succ_val ds k h
  · rw [List.take_of_length_le (by omega), List.take_of_length_le (by omega), lm_over _ _ (by omega)]; simp
theorem bb_pow (k : Nat) : BB ^ k = 65536 ^ (2 * k) := by rw [Nat.pow_mul]; rfl
end Go.Proofs.Ytapodkjmhenceaa
