/- limb.Mul answers a new list: the product. -/
import Derived.Test.YtenmogmdijnlhaaDoorNorm
import Derived.Laws.Bits64
namespace Go.Proofs.YtenmogmdijnlhaaDoor
open Go.RowKit

/-- a row in the making: what is filled, and noughts -/
def fil (acc : List Nat) (r : Nat) : List Nat := acc ++ List.replicate r 0
theorem made_fil (n : Nat) : (madeCells #[.int .u32 0] n).toList = ints (fil [] n) := by
  rw [toList_madeCells_one]; simp [fil, ints]

/-- the row that a loop fills: at block g, n limbs -/
def Row (w : World) (base g n : Nat) (xs : List Nat) : Prop := w.ownsRow base 87 1 (.slice (some ⟨g, 0, none⟩) n n) n (ints xs)

theorem Row.cell {w : World} {base g n : Nat} {xs : List Nat} (h : Row w base g n xs) (hl : xs.length = n) (i : Nat) (hi : i < n) : w.cell? ⟨g, i, none⟩ = some (.int .u32 (lm xs i : Nat)) := by
  rw [World.ownsRow.cellAt h i (by omega), ints_get _ _ (by omega)]
theorem Row.free {w : World} {base g n : Nat} {xs : List Nat} (h : Row w base g n xs) (i : Nat) : w.frozen? ⟨g, i, none⟩ = false := World.ownsRow.frozenAt h i
theorem Row.set {w : World} {base g n : Nat} {xs : List Nat} (h : Row w base g n xs) (i x : Nat) : Row (w.setCell ⟨g, i, none⟩ (.int .u32 (x : Nat))) base g n (xs.set i x) := by
  have := (World.ownsRow.stored h i (.int .u32 (x : Nat))).1
  rw [ints_set] at this; exact this
theorem Row.nums {w : World} {base g n : Nat} {xs : List Nat} (h : Row w base g n xs) (hl : xs.length = n) (ho : Ok xs) : Nums w (.slice (some ⟨g, 0, none⟩) n n) xs := nums_of_row ho hl h

theorem add_math {a b c acc K : Nat} {la lb : Nat} (h : acc + K * c = a + b) :
    (acc + K * ((c + la + lb) % BB)) + K * BB * ((c + la + lb) / BB) = (a + K * la) + (b + K * lb) := by
  have e : K * ((c + la + lb) % BB) + K * BB * ((c + la + lb) / BB) = K * (c + la + lb) := by
    rw [Nat.mul_assoc, ← Nat.mul_add, Nat.mod_add_div]
  have e2 : K * (c + la + lb) = K * c + K * la + K * lb := by rw [Nat.mul_add, Nat.mul_add]
  omega

/-- a sum's state behind k limbs -/
structure AddAt (LA LB : List Nat) (k c : Nat) (acc : List Nat) : Prop where
  len : acc.length = k
  ok : Ok acc
  c1 : c ≤ 1
  sum : val acc + BB ^ k * c = val (LA.take k) + val (LB.take k)

theorem AddAt.zero (LA LB : List Nat) : AddAt LA LB 0 0 [] := ⟨rfl, Ok.nil, by omega, by simp [val]⟩

theorem take_succ_any (xs : List Nat) (k : Nat) : val (xs.take (k + 1)) = val (xs.take k) + BB ^ k * lm xs k := by
  by_cases h : k < xs.length
  · exact take_succ_val xs k h
  · rw [List.take_of_length_le (by omega), List.take_of_length_le (by omega), lm_over _ _ (by omega)]; simp

theorem AddAt.step {LA LB : List Nat} {k c : Nat} {acc : List Nat} (h : AddAt LA LB k c acc) (hA : Ok LA) (hB : Ok LB) :
    AddAt LA LB (k + 1) ((c + lm LA k + lm LB k) / BB) (acc ++ [(c + lm LA k + lm LB k) % BB]) := by
  have h1 := hA.at k
  have h2 := hB.at k
  have h3 := h.c1
  refine ⟨by simp [h.len], h.ok.append (Ok.cons (Nat.mod_lt _ BB_pos) Ok.nil), ?_, ?_⟩
  · have : (c + lm LA k + lm LB k) / BB < 2 := by rw [Nat.div_lt_iff_lt_mul BB_pos]; omega
    omega
  · rw [take_succ_any, take_succ_any, val_append, h.len, Nat.pow_succ]
    simp only [val, Nat.mul_zero, Nat.add_zero]
    exact add_math h.sum

end Go.Proofs.YtenmogmdijnlhaaDoor

namespace Go.Proofs.YtenmogmdijnlhaaDoor
open Go.RowKit

/-- a difference's state behind k limbs: b is what was borrowed -/
structure SubAt (LA LB : List Nat) (k b : Nat) (acc : List Nat) : Prop where
  len : acc.length = k
  ok : Ok acc
  b1 : b ≤ 1
  sum : val acc + val (LB.take k) = val (LA.take k) + BB ^ k * b

theorem SubAt.zero (LA LB : List Nat) : SubAt LA LB 0 0 [] := ⟨rfl, Ok.nil, by omega, by simp [val]⟩

theorem SubAt.step {LA LB : List Nat} {k b d b' : Nat} {acc : List Nat} (h : SubAt LA LB k b acc) (hd : d < BB) (hb : b' ≤ 1) (e : d + b + lm LB k = lm LA k + BB * b') :
    SubAt LA LB (k + 1) b' (acc ++ [d]) := by
  refine ⟨by simp [h.len], h.ok.append (Ok.cons hd Ok.nil), hb, ?_⟩
  rw [take_succ_any, take_succ_any, val_append, h.len, Nat.pow_succ]
  simp only [val, Nat.mul_zero, Nat.add_zero]
  have hs := h.sum
  have e2 : BB ^ k * (d + b + lm LB k) = BB ^ k * (lm LA k + BB * b') := by rw [e]
  rw [Nat.mul_add, Nat.mul_add, Nat.mul_add, ← Nat.mul_assoc] at e2
  omega

theorem hide {p : Prop} (h : p) : Hid p := h

end Go.Proofs.YtenmogmdijnlhaaDoor

namespace Go.Proofs.YtenmogmdijnlhaaDoor
open Go.RowKit

theorem val_set (xs : List Nat) (i y : Nat) (h : i < xs.length) : val (xs.set i y) + BB ^ i * lm xs i = val xs + BB ^ i * y := by
  induction xs generalizing i with
  | nil => simp at h
  | cons x xs ih =>
    cases i with
    | zero => simp [val, lm]; omega
    | succ i =>
      have := ih i (by simpa using h)
      simp only [List.set_cons_succ, val]
      have e : lm (x :: xs) (i + 1) = lm xs i := by simp [lm]
      rw [e, Nat.pow_succ, Nat.mul_comm (BB ^ i) BB, Nat.mul_assoc, Nat.mul_assoc]
      have h2 : BB * (val (xs.set i y) + BB ^ i * lm xs i) = BB * (val xs + BB ^ i * y) := by rw [this]
      rw [Nat.mul_add, Nat.mul_add] at h2
      omega

/-- a product's state behind k limbs of the first number -/
structure MulAt (LA LB : List Nat) (k : Nat) (acc : List Nat) : Prop where
  len : acc.length = k + LB.length
  ok : Ok acc
  prod : val acc = val (LA.take k) * val LB

/-- and within: behind q limbs of the second one -/
structure MulIn (LB : List Nat) (k x v0 q c : Nat) (acc : List Nat) : Prop where
  len : acc.length = k + LB.length
  ok : Ok acc
  c1 : c < BB
  prod : val acc + BB ^ (k + q) * c = v0 + BB ^ k * (x * val (LB.take q))

theorem MulAt.zero (LA LB : List Nat) : MulAt LA LB 0 (List.replicate LB.length 0) := ⟨by simp, fun x hx => by rw [List.eq_of_mem_replicate hx]; exact BB_pos, by simp [val, val_replicate]⟩

theorem MulIn.zero {LA LB : List Nat} {k x : Nat} {acc : List Nat} (h : MulAt LA LB k acc) : MulIn LB k x (val acc) 0 0 acc := ⟨h.len, h.ok, BB_pos, by simp [val]⟩

theorem mul_bound (x y : Nat) (hx : x < BB) (hy : y < BB) : x * y ≤ 18446744065119617025 := by
  have h1 : x ≤ 4294967295 := by unfold BB at hx; omega
  have h2 : y ≤ 4294967295 := by unfold BB at hy; omega
  exact Nat.le_trans (Nat.mul_le_mul h1 h2) (by decide)

theorem MulIn.step {LB : List Nat} {k x v0 q c t : Nat} {acc : List Nat} (h : MulIn LB k x v0 q c acc) (hq : q < LB.length) (hx : x < BB) (hB : Ok LB) (ht : t = c + (x * lm LB q + lm acc (k + q))) :
    MulIn LB k x v0 (q + 1) (t / BB) (acc.set (k + q) (t % BB)) := by
  have hl := h.len
  have h1 := h.c1
  have h2 := h.ok.at (k + q)
  have h3 := mul_bound x (lm LB q) hx (hB.at q)
  refine ⟨by simp [hl], h.ok.set _ _ (Nat.mod_lt _ BB_pos), ?_, ?_⟩
  · rw [Nat.div_lt_iff_lt_mul BB_pos]; unfold BB at *; omega
  · have hs := val_set acc (k + q) (t % BB) (by omega)
    have hp := h.prod
    rw [take_succ_any]
    have e1 : BB ^ (k + (q + 1)) * (t / BB) = BB ^ (k + q) * (BB * (t / BB)) := by rw [← Nat.add_assoc, Nat.pow_succ, Nat.mul_assoc]
    have e2 : BB ^ (k + q) * (t % BB) + BB ^ (k + q) * (BB * (t / BB)) = BB ^ (k + q) * t := by rw [← Nat.mul_add, Nat.mod_add_div]
    have e3 : BB ^ (k + q) * t = BB ^ (k + q) * c + BB ^ (k + q) * (x * lm LB q) + BB ^ (k + q) * lm acc (k + q) := by rw [ht, Nat.mul_add, Nat.mul_add, Nat.add_assoc]
    have e4 : BB ^ k * (x * (val (LB.take q) + BB ^ q * lm LB q)) = BB ^ k * (x * val (LB.take q)) + BB ^ (k + q) * (x * lm LB q) := by
      rw [Nat.mul_add, Nat.mul_add, Nat.pow_add]
      congr 1
      rw [Nat.mul_left_comm x, Nat.mul_assoc]
    rw [e4, e1]
    omega

theorem MulIn.last {LA LB : List Nat} {k c : Nat} {acc acc0 : List Nat} (h0 : MulAt LA LB k acc0) (h : MulIn LB k (lm LA k) (val acc0) LB.length c acc) :
    MulAt LA LB (k + 1) (acc ++ [c]) := by
  have hl := h.len
  refine ⟨by simp [hl]; omega, h.ok.append (Ok.cons h.c1 Ok.nil), ?_⟩
  have hp := h.prod
  rw [val_append, hl, take_succ_any]
  simp only [val, Nat.mul_zero, Nat.add_zero]
  rw [hp, List.take_length, h0.prod, Nat.add_mul, Nat.mul_assoc]

end Go.Proofs.YtenmogmdijnlhaaDoor
