/- limb.Mul answers a new list: the product. -/
import Derived.Test.YtdafdfgkfkanjaaDoorSub
namespace Go.Proofs.YtdafdfgkfkanjaaDoor
open Go.RowKit

theorem val_set (xs : List Nat) (i y : Nat) (h : i < xs.length) : val (xs.set i y) + BB ^ i * lm xs i = val xs + BB ^ i * y := by
  induction xs generalizing i with
  | nil => simp at h
  | cons x xs ih =>
    cases i with
    | zero => simp [val, lm]; omega
    | succ i =>
      have := ih i (by simpa using h)
      simp only [List.set_cons_succ, val]
      have e : lm (x :: xs) (i + 1) = lm xs i := by simp [lm]
      rw [e, Nat.pow_succ, Nat.mul_comm (BB ^ i) BB, Nat.mul_assoc, Nat.mul_assoc]
      have h2 : BB * (val (xs.set i y) + BB ^ i * lm xs i) = BB * (val xs + BB ^ i * y) := by rw [this]
      rw [Nat.mul_add, Nat.mul_add] at h2
      omega

theorem fil_set_in (acc : List Nat) (r i x : Nat) (h : i < acc.length) : (fil acc r).set i x = fil (acc.set i x) r := by
  simp only [fil]; rw [List.set_append_left _ _ h]
theorem fil_lm (acc : List Nat) (r i : Nat) (h : i < acc.length) : lm (fil acc r) i = lm acc i := by
  simp [fil, lm, List.getElem?_append_left h]

/-- a product's state behind k limbs of the first number -/
structure MulAt (LA LB : List Nat) (k : Nat) (acc : List Nat) : Prop where
  len : acc.length = k + LB.length
  ok : Ok acc
  prod : val acc = val (LA.take k) * val LB

/-- and within: behind q limbs of the second one -/
structure MulIn (LB : List Nat) (k x v0 q c : Nat) (acc : List Nat) : Prop where
  len : acc.length = k + LB.length
  ok : Ok acc
  c1 : c < BB
  prod : val acc + BB ^ (k + q) * c = v0 + BB ^ k * (x * val (LB.take q))

theorem MulAt.zero (LA LB : List Nat) : MulAt LA LB 0 (List.replicate LB.length 0) := ⟨by simp, fun x hx => by rw [List.eq_of_mem_replicate hx]; exact BB_pos, by simp [val, val_replicate]⟩

theorem MulIn.zero {LA LB : List Nat} {k x : Nat} {acc : List Nat} (h : MulAt LA LB k acc) : MulIn LB k x (val acc) 0 0 acc := ⟨h.len, h.ok, BB_pos, by simp [val]⟩

theorem mul_bound (x y : Nat) (hx : x < BB) (hy : y < BB) : x * y ≤ 18446744065119617025 := by
  have h1 : x ≤ 4294967295 := by unfold BB at hx; omega
  have h2 : y ≤ 4294967295 := by unfold BB at hy; omega
  exact Nat.le_trans (Nat.mul_le_mul h1 h2) (by decide)

theorem mul_boundI (x y : Nat) (hx : x < BB) (hy : y < BB) : 0 ≤ (x : Int) * (y : Int) ∧ (x : Int) * (y : Int) ≤ 18446744065119617025 := by
  have h := mul_bound x y hx hy
  rw [← Int.natCast_mul]
  omega

theorem MulIn.step {LB : List Nat} {k x v0 q c t : Nat} {acc : List Nat} (h : MulIn LB k x v0 q c acc) (hq : q < LB.length) (hx : x < BB) (hB : Ok LB) (ht : t = c + (x * lm LB q + lm acc (k + q))) :
    MulIn LB k x v0 (q + 1) (t / BB) (acc.set (k + q) (t % BB)) := by
  have hl := h.len
  have h1 := h.c1
  have h2 := h.ok.at (k + q)
  have h3 := mul_bound x (lm LB q) hx (hB.at q)
  refine ⟨by simp [hl], h.ok.set _ _ (Nat.mod_lt _ BB_pos), ?_, ?_⟩
  · rw [Nat.div_lt_iff_lt_mul BB_pos]; unfold BB at *; omega
  · have hs := val_set acc (k + q) (t % BB) (by omega)
    have hp := h.prod
    rw [take_succ_any]
    have e1 : BB ^ (k + (q + 1)) * (t / BB) = BB ^ (k + q) * (BB * (t / BB)) := by rw [← Nat.add_assoc, Nat.pow_succ, Nat.mul_assoc]
    have e2 : BB ^ (k + q) * (t % BB) + BB ^ (k + q) * (BB * (t / BB)) = BB ^ (k + q) * t := by rw [← Nat.mul_add, Nat.mod_add_div]
    have e3 : BB ^ (k + q) * t = BB ^ (k + q) * c + BB ^ (k + q) * (x * lm LB q) + BB ^ (k + q) * lm acc (k + q) := by rw [ht, Nat.mul_add, Nat.mul_add, Nat.add_assoc]
    have e4 : BB ^ k * (x * (val (LB.take q) + BB ^ q * lm LB q)) = BB ^ k * (x * val (LB.take q)) + BB ^ (k + q) * (x * lm LB q) := by
      rw [Nat.mul_add, Nat.mul_add, Nat.pow_add]
      congr 1
      rw [Nat.mul_left_comm x, Nat.mul_assoc]
    rw [e4, e1]
    omega

theorem MulIn.last {LA LB : List Nat} {k c : Nat} {acc acc0 : List Nat} (h0 : MulAt LA LB k acc0) (h : MulIn LB k (lm LA k) (val acc0) LB.length c acc) :
    MulAt LA LB (k + 1) (acc ++ [c]) := by
  have hl := h.len
  refine ⟨by simp [hl]; omega, h.ok.append (Ok.cons h.c1 Ok.nil), ?_⟩
  have hp := h.prod
  rw [val_append, hl, take_succ_any]
  simp only [val, Nat.mul_zero, Nat.add_zero]
  rw [hp, List.take_length, h0.prod, Nat.add_mul, Nat.mul_assoc]

theorem mul_next {w wr : World} {g k q c x v0 n N : Nat} {acc LB : List Nat} {s : Int} (hat : MulIn LB k x v0 q c acc) (hx : x < BB) (hB : Ok LB) (hlt : q < LB.length) (hg : w.heap.size ≤ g)
    (hrow : Row wr w.heap.size g N (fil acc n)) (hbel : Below w.heap.size w wr) (hs : s = ((c + (x * lm LB q + lm acc (k + q)) : Nat) : Int)) :
    ∃ (q' c' : Nat) (acc' : List Nat), q' ≤ LB.length ∧ Value.int .i64 (↑q + 1) = .int .i64 q' ∧ Value.int .u64 (s / 4294967296) = .int .u64 c' ∧ MulIn LB k x v0 q' c' acc' ∧
      Row (wr.setCell ⟨g, k + q, none⟩ (.int .u32 (s % 4294967296))) w.heap.size g N (fil acc' n) ∧ Below w.heap.size w (wr.setCell ⟨g, k + q, none⟩ (.int .u32 (s % 4294967296))) := by
  have e1 : s / 4294967296 = (((c + (x * lm LB q + lm acc (k + q))) / BB : Nat) : Int) := by subst hs; unfold BB; omega
  have e2 : s % 4294967296 = (((c + (x * lm LB q + lm acc (k + q))) % BB : Nat) : Int) := by subst hs; unfold BB; omega
  refine ⟨q + 1, _, _, hlt, by go_num, by rw [e1], hat.step hlt hx hB rfl, ?_, hbel.setCell hg _⟩
  rw [e2]
  have := hrow.set (k + q) ((c + (x * lm LB q + lm acc (k + q))) % BB)
  rw [fil_set_in _ _ _ _ (by rw [hat.len]; omega)] at this
  exact this

theorem mul_row {w wr : World} {g k c N r : Nat} {acc : List Nat} (hg : w.heap.size ≤ g) (hl : acc.length = k)
    (hrow : Row wr w.heap.size g N (fil acc (r + 1))) (hbel : Below w.heap.size w wr) :
    Row (wr.setCell ⟨g, k, none⟩ (.int .u32 (c : Nat))) w.heap.size g N (fil (acc ++ [c]) r) ∧ Below w.heap.size w (wr.setCell ⟨g, k, none⟩ (.int .u32 (c : Nat))) := by
  have := hrow.set k c
  subst hl
  rw [fil_set] at this
  exact ⟨this, hbel.setCell hg _⟩

end Go.Proofs.YtdafdfgkfkanjaaDoor
