/- The document's answers for layer 2 (swageref02): Limbs. -/
import Derived.Test.YtngdnekbajnomaaR2Make
namespace Go.Proofs.Ytngdnekbajnomaa
open Go.RowKit

/-- one more limb behind what is owned -/
theorem own_step {w5 w6 w1 : World} {base T : Nat} {v5 v6 : Value} {acc : List Nat} {x : Int} {n : Nat} (hx : x = (n : Int)) {o : Obj} (hO : Own w5 base v5 acc)
    (hown6 : w6.ownsRow base 63 1 v6 (acc.length + 1) (ints acc ++ [Value.int .u32 x])) (hgrow6 : (w5.alloc o).grownBy w6 v5.ownBlock) (hB5 : Below T w1 w5) (hT : T ≤ w5.heap.size) (hb : T ≤ base) :
    Own w6 base v6 (acc ++ [n]) ∧ Below T w1 w6 := by
  constructor
  · subst hx
    have e1 : ints acc ++ [Value.int .u32 (n : Int)] = ints (acc ++ [n]) := by simp [ints]
    rw [e1] at hown6
    show World.ownsRow _ _ _ _ _ _ _; simpa using hown6
  · exact (hB5.alloc hT o).grown hgrow6 (by simp; omega) (fun k hk => Nat.le_trans hb (hO.lt k hk).1)

/-- two digits a limb -/
def jnd (ds : List Nat) (k : Nat) : List Nat := (List.range k).map fun j => lm ds (2 * j) + 65536 * lm ds (2 * j + 1)
theorem jnd_length (ds : List Nat) (k : Nat) : (jnd ds k).length = k := by simp [jnd]
theorem jnd_succ (ds : List Nat) (k : Nat) : jnd ds (k + 1) = jnd ds k ++ [lm ds (2 * k) + 65536 * lm ds (2 * k + 1)] := by simp [jnd, List.range_succ]
theorem dlm_lt {ds : List Nat} (h : D.Ok ds) (i : Nat) : lm ds i < 65536 := h.at i
theorem jnd_ok {ds : List Nat} (h : D.Ok ds) (k : Nat) : Ok (jnd ds k) := by
  intro x hx
  obtain ⟨j, _, rfl⟩ := List.mem_map.1 hx
  have h1 := dlm_lt h (2 * j)
  have h2 := dlm_lt h (2 * j + 1)
  unfold BB; omega
theorem dtake_succ (ds : List Nat) (k : Nat) : D.val (ds.take (k + 1)) = D.val (ds.take k) + 65536 ^ k * lm ds k := by
  by_cases h : k < ds.length
  · exact D.take_succ_val ds k h
  · rw [List.take_of_length_le (by omega), List.take_of_length_le (by omega), lm_over _ _ (by omega)]; simp
theorem bb_pow (k : Nat) : BB ^ k = 65536 ^ (2 * k) := by rw [Nat.pow_mul]; rfl
theorem jnd_val (ds : List Nat) (k : Nat) : val (jnd ds k) = D.val (ds.take (2 * k)) := by
  induction k with
  | zero => rfl
  | succ k ih =>
    rw [jnd_succ, val_append, jnd_length, ih, show 2 * (k + 1) = 2 * k + 1 + 1 from by omega, dtake_succ, dtake_succ, bb_pow, Nat.pow_succ]
    simp only [val, Nat.mul_zero, Nat.add_zero]
    rw [Nat.mul_add, Nat.add_assoc, Nat.mul_assoc]
theorem dlim_last {n : Nat} (h : 0 < (D.lim n).length) : lm (D.lim n) ((D.lim n).length - 1) ≠ 0 := by
  revert h
  refine D.lim_ind (p := fun n => 0 < (D.lim n).length → lm (D.lim n) ((D.lim n).length - 1) ≠ 0) (fun h => by simp [D.lim_zero] at h) (fun n hn ih _ => ?_) n
  rw [D.lim_pos hn]
  by_cases h0 : D.lim (n / D.BB) = []
  · rw [h0]
    have hz : n / D.BB = 0 := by rw [← D.val_lim (n / D.BB), h0]; rfl
    have : n % D.BB = n := Nat.mod_eq_of_lt ((Nat.div_eq_zero_iff_lt D.BB_pos).1 hz)
    simp [lm, this]; omega
  · have hp : 0 < (D.lim (n / D.BB)).length := List.length_pos_iff.2 h0
    have := ih hp
    obtain ⟨m, hm⟩ : ∃ m, (D.lim (n / D.BB)).length = m + 1 := ⟨_, (Nat.succ_pred_eq_of_pos hp).symm⟩
    rw [List.length_cons, hm] 
    rw [hm] at this
    simpa [lm] using this
theorem jnd_lim {n k : Nat} (h1 : (D.lim n).length ≤ 2 * k) (h2 : 2 * k ≤ (D.lim n).length + 1) : jnd (D.lim n) k = lim n := by
  have hv : val (jnd (D.lim n) k) = n := by rw [jnd_val, List.take_of_length_le h1, D.val_lim]
  have := lim_val (jnd_ok (D.ok_lim n) k) (fun x hx => ?_)
  · rw [← this, hv]
  · cases k with
    | zero => simp [jnd] at hx
    | succ k =>
      rw [jnd_succ, List.getLast?_concat] at hx
      simp only [Option.some.injEq] at hx
      subst hx
      have hp : 0 < (D.lim n).length := by omega
      have hl := dlim_last hp
      by_cases e : (D.lim n).length = 2 * k + 1
      · rw [e, show 2 * k + 1 - 1 = 2 * k from by omega] at hl; omega
      · have e' : (D.lim n).length = 2 * k + 2 := by omega
        rw [e', show 2 * k + 2 - 1 = 2 * k + 1 from by omega] at hl; omega

end Go.Proofs.Ytngdnekbajnomaa
