/- limb.Add answers a new list: the sum, without high noughts. -/
import Derived.Test.YtapodkjmhenceaaNorm
namespace Go.Proofs.Ytapodkjmhenceaa
open Go.RowKit

/-- a row in the making: what is filled, and noughts -/
def fil (acc : List Nat) (r : Nat) : List Nat := acc ++ List.replicate r 0
theorem fil_length (acc : List Nat) (r : Nat) : (fil acc r).length = acc.length + r := by simp [fil]
theorem fil_set (acc : List Nat) (r x : Nat) : (fil acc (r + 1)).set acc.length x = fil (acc ++ [x]) r := by
  simp [fil, List.replicate_succ]
theorem fil_val (acc : List Nat) (r : Nat) : val (fil acc r) = val acc := by simp [fil, val_append, val_replicate]
theorem fil_ok {acc : List Nat} (h : Ok acc) (r : Nat) : Ok (fil acc r) := h.append (fun x hx => by rw [List.eq_of_mem_replicate hx]; exact BB_pos)
theorem made_fil (n : Nat) : (madeCells #[.int .u32 0] n).toList = ints (fil [] n) := by
  rw [toList_madeCells_one]; simp [fil, ints]

/-- the row that a loop fills: at block g, n limbs -/
def Row (w : World) (base g n : Nat) (xs : List Nat) : Prop := w.ownsRow base 108 1 (.slice (some ⟨g, 0, none⟩) n n) n (ints xs)

theorem Row.cell {w : World} {base g n : Nat} {xs : List Nat} (h : Row w base g n xs) (hl : xs.length = n) (i : Nat) (hi : i < n) : w.cell? ⟨g, i, none⟩ = some (.int .u32 (lm xs i : Nat)) := by
  rw [World.ownsRow.cellAt h i (by omega), ints_get _ _ (by omega)]
theorem Row.free {w : World} {base g n : Nat} {xs : List Nat} (h : Row w base g n xs) (i : Nat) : w.frozen? ⟨g, i, none⟩ = false := World.ownsRow.frozenAt h i
theorem Row.set {w : World} {base g n : Nat} {xs : List Nat} (h : Row w base g n xs) (i x : Nat) : Row (w.setCell ⟨g, i, none⟩ (.int .u32 (x : Nat))) base g n (xs.set i x) := by
  have := (World.ownsRow.stored h i (.int .u32 (x : Nat))).1
  rw [ints_set] at this; exact this
theorem Row.nums {w : World} {base g n : Nat} {xs : List Nat} (h : Row w base g n xs) (hl : xs.length = n) (ho : Ok xs) : Nums w (.slice (some ⟨g, 0, none⟩) n n) xs := nums_of_row ho hl h

theorem add_math {a b c acc K : Nat} {la lb : Nat} (h : acc + K * c = a + b) :
    (acc + K * ((c + la + lb) % BB)) + K * BB * ((c + la + lb) / BB) = (a + K * la) + (b + K * lb) := by
  have e : K * ((c + la + lb) % BB) + K * BB * ((c + la + lb) / BB) = K * (c + la + lb) := by
    rw [Nat.mul_assoc, ← Nat.mul_add, Nat.mod_add_div]
  have e2 : K * (c + la + lb) = K * c + K * la + K * lb := by rw [Nat.mul_add, Nat.mul_add]
  omega

/-- a sum's state behind k limbs -/
structure AddAt (LA LB : List Nat) (k c : Nat) (acc : List Nat) : Prop where
  len : acc.length = k
  ok : Ok acc
  c1 : c ≤ 1
  sum : val acc + BB ^ k * c = val (LA.take k) + val (LB.take k)

theorem AddAt.zero (LA LB : List Nat) : AddAt LA LB 0 0 [] := ⟨rfl, Ok.nil, by omega, by simp [val]⟩

theorem take_succ_any (xs : List Nat) (k : Nat) : val (xs.take (k + 1)) = val (xs.take k) + BB ^ k * lm xs k := by
  by_cases h : k < xs.length
  · exact take_succ_val xs k h
  · rw [List.take_of_length_le (by omega), List.take_of_length_le (by omega), lm_over _ _ (by omega)]; simp

theorem AddAt.step {LA LB : List Nat} {k c : Nat} {acc : List Nat} (h : AddAt LA LB k c acc) (hA : Ok LA) (hB : Ok LB) :
    AddAt LA LB (k + 1) ((c + lm LA k + lm LB k) / BB) (acc ++ [(c + lm LA k + lm LB k) % BB]) := by
  have h1 := hA.at k
  have h2 := hB.at k
  have h3 := h.c1
  refine ⟨by simp [h.len], h.ok.append (Ok.cons (Nat.mod_lt _ BB_pos) Ok.nil), ?_, ?_⟩
  · have : (c + lm LA k + lm LB k) / BB < 2 := by rw [Nat.div_lt_iff_lt_mul BB_pos]; omega
    omega
  · rw [take_succ_any, take_succ_any, val_append, h.len, Nat.pow_succ]
    simp only [val, Nat.mul_zero, Nat.add_zero]
    exact add_math h.sum

end Go.Proofs.Ytapodkjmhenceaa
