/- Bits of numbers: plain words that the program and the document share. -/
import Derived.Test.YtmibgcpafccliaaDoorDivAll
import Derived.Test.YtmibgcpafccliaaDoorShr
import Derived.Laws.BitsAllLaws
namespace Go.Proofs.YtmibgcpafccliaaDoor
open Go.RowKit

theorem isLen_zero : IsLen 0 0 := ⟨by decide, fun h => absurd h (by decide)⟩

/-- the bits of a limb, counted one by one -/
structure CntAt (t i x : Nat) : Prop where
  eq : x = t / 2 ^ i
  pos : 1 ≤ i → 0 < t / 2 ^ (i - 1)

theorem CntAt.step {t i x : Nat} (h : CntAt t i x) (hx : 0 < x) : CntAt t (i + 1) (x / 2) :=
  ⟨by rw [h.eq, Nat.div_div_eq_div_mul, ← Nat.pow_succ], fun _ => by rw [Nat.add_sub_cancel, ← h.eq]; exact hx⟩

theorem CntAt.end {t i : Nat} (h : CntAt t i 0) : IsLen t i := by
  have hp : 0 < 2 ^ i := Nat.two_pow_pos i
  have h1 : t < 2 ^ i := by
    have := h.eq
    rcases Nat.lt_or_ge t (2 ^ i) with h' | h'
    · exact h'
    · have := Nat.div_pos h' hp; omega
  refine ⟨h1, fun ht => ?_⟩
  rcases Nat.eq_zero_or_pos i with e | e
  · rw [e] at h1; simp at h1; omega
  · have := h.pos e
    refine ⟨e, ?_⟩
    exact (Nat.div_pos_iff.1 this).2

theorem val_top_div {L : List Nat} {n : Nat} (ho : Ok L) (h : L.length = n + 1) : val L / 2 ^ (32 * n) = lm L n := by
  have e : val L = val (L.take n) + BB ^ n * lm L n := by rw [← take_succ_any, List.take_of_length_le (by omega)]
  have hl := val_lt (ho.take n)
  rw [List.length_take, Nat.min_eq_left (by omega)] at hl
  have hB : BB ^ n = 2 ^ (32 * n) := by rw [Nat.pow_mul]; rfl
  rw [hB] at e hl
  rw [e, Nat.add_mul_div_left _ _ (Nat.two_pow_pos _), Nat.div_eq_of_lt hl, Nat.zero_add]

theorem bit_val (xs : List Nat) (k : Nat) (h : Ok xs) : val xs / 2 ^ k % 2 = lm xs (k / 32) / 2 ^ (k % 32) % 2 := by
  rw [shr_val xs k h, drop_val_any xs (k / 32)]
  have hp : 0 < 2 ^ (k % 32) := Nat.two_pow_pos _
  obtain ⟨r, hr⟩ : ∃ r, BB = 2 ^ (k % 32) * (2 * r) := ⟨2 ^ (31 - k % 32), by
    rw [← Nat.pow_succ', ← Nat.pow_add, show k % 32 + (31 - k % 32 + 1) = 32 from by omega]; rfl⟩
  have e : BB * val (xs.drop (k / 32 + 1)) = 2 ^ (k % 32) * (2 * (r * val (xs.drop (k / 32 + 1)))) := by rw [hr, Nat.mul_assoc, Nat.mul_assoc]
  rw [e, Nat.add_mul_div_left _ _ hp, Nat.add_mul_mod_self_left]

theorem and_one32 (m : Nat) (h : m < 4294967296) : bits .and .u32 (m : Int) 1 = ((m % 2 : Nat) : Int) := by
  have := u32_and_nat m 1 h (by decide)
  rw [Nat.and_one_is_mod] at this
  exact this

/-- whether the bit k is 1 -/
def bitB (n k : Nat) : Bool := decide (n / 2 ^ k % 2 = 1)

end Go.Proofs.YtmibgcpafccliaaDoor
