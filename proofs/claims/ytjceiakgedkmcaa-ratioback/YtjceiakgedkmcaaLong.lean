/- The numbers of a long division: what stands behind each limb of the quotient. Nothing of the program. -/
import Derived.Test.YtjceiakgedkmcaaSeg
namespace Go.Proofs.Ytjceiakgedkmcaa
open Go.RowKit

/-- J limbs of the quotient to go: Z is the shifted number, D the shifted divisor -/
structure LongAt (Z : Nat) (D R Qs : List Nat) (J : Nat) : Prop where
  okR : Ok R
  okQ : Ok Qs
  sum : Z = val Qs * BB ^ J * val D + val R
  lt : val R < val D * BB ^ J

theorem long_parts {R1 P R2 D : List Nat} {j n : Nat} (h1 : R1.length = j) (hP : P.length = n + 1) (hDl : D.length = n) (oD : Ok D) (h : val (R1 ++ (P ++ R2)) < val D * BB ^ (j + 1)) :
    val R2 = 0 ∧ val (R1 ++ (P ++ R2)) = val R1 + BB ^ j * val P ∧ val P < val D * BB := by
  have hD := val_lt oD
  rw [hDl] at hD
  have e : val (R1 ++ (P ++ R2)) = val R1 + BB ^ j * (val P + BB ^ (n + 1) * val R2) := by rw [val_append, val_append, h1, hP]
  have hR2 : val R2 = 0 := by
    rcases Nat.eq_zero_or_pos (val R2) with h0 | h0
    · exact h0
    · exfalso
      have e1 : BB ^ j * (BB ^ (n + 1) * val R2) = BB ^ n * BB ^ (j + 1) * val R2 := by
        rw [← Nat.mul_assoc, ← Nat.pow_add, ← Nat.pow_add, show j + (n + 1) = n + (j + 1) from by omega]
      have e2 : BB ^ n * BB ^ (j + 1) ≤ BB ^ n * BB ^ (j + 1) * val R2 := Nat.le_mul_of_pos_right _ h0
      have e3 : val D * BB ^ (j + 1) ≤ BB ^ n * BB ^ (j + 1) := Nat.mul_le_mul_right _ (by omega)
      rw [e, Nat.mul_add, e1] at h
      omega
  refine ⟨hR2, ?_, ?_⟩
  · rw [e, hR2, Nat.mul_zero, Nat.add_zero]
  · rw [e, hR2, Nat.mul_zero, Nat.add_zero, Nat.pow_succ] at h
    have h2 : BB ^ j * val P < BB ^ j * (val D * BB) := by
      have e4 : val D * (BB ^ j * BB) = BB ^ j * (val D * BB) := by rw [Nat.mul_left_comm]
      omega
    exact Nat.lt_of_mul_lt_mul_left h2

theorem LongAt.step {Z q : Nat} {D R1 P R2 P' Qs : List Nat} {j n : Nat} (h : LongAt Z D (R1 ++ (P ++ R2)) Qs (j + 1)) (h1 : R1.length = j) (hP : P.length = n + 1) (hDl : D.length = n) (oD : Ok D) (oP' : Ok P')
    (hq : q = val P / val D) (hr : val P' = val P % val D) (hDp : 0 < val D) : LongAt Z D (R1 ++ (P' ++ R2)) (q :: Qs) j := by
  obtain ⟨hR2, e1, hPD⟩ := long_parts h1 hP hDl oD h.lt
  have e2 : val (R1 ++ (P' ++ R2)) = val R1 + BB ^ j * val P' := by rw [val_append, val_append, h1, hR2, Nat.mul_zero, Nat.add_zero]
  have o1 : Ok R1 := fun x hx => h.okR x (List.mem_append_left _ hx)
  have o2 : Ok R2 := fun x hx => h.okR x (List.mem_append_right _ (List.mem_append_right _ hx))
  have hv1 := val_lt o1
  rw [h1] at hv1
  have hdm := Nat.div_add_mod (val P) (val D)
  refine ⟨o1.append (oP'.append o2), Ok.cons ?_ h.okQ, ?_, ?_⟩
  · rw [hq]; exact Nat.div_lt_of_lt_mul hPD
  · rw [h.sum, e1, e2, hr, ← hq] at *
    simp only [val]
    rw [Nat.pow_succ]
    have e3 : BB ^ j * val P = BB ^ j * (val D * q) + BB ^ j * (val P % val D) := by rw [← Nat.mul_add, hdm]
    rw [e3]
    have e4 : (q + BB * val Qs) * BB ^ j * val D = BB ^ j * (val D * q) + val Qs * (BB ^ j * BB) * val D := by grind
    omega
  · rw [e2, hr]
    have h2 : val P % val D < val D := Nat.mod_lt _ hDp
    have h3 : BB ^ j * (val P % val D + 1) ≤ BB ^ j * val D := Nat.mul_le_mul_left _ h2
    rw [Nat.mul_add, Nat.mul_one] at h3
    rw [Nat.mul_comm (val D)]
    omega

/-- taken away without a borrow: the guess was right -/
theorem take_right {p p' d g : Nat} (h : p' + g * d = p) (hd : 0 < d) (h1 : p / d ≤ g) : g = p / d ∧ p' = p % d := by
  have hg : g * d ≤ p := by omega
  have h2 : g ≤ p / d := (Nat.le_div_iff_mul_le hd).2 hg
  have e : g = p / d := by omega
  refine ⟨e, ?_⟩
  have hdm := Nat.div_add_mod p d
  rw [← e, Nat.mul_comm] at hdm
  omega

/-- taken away with a borrow: it was one more, and what is given back mends it -/
theorem take_over {p p' p'' d g K o : Nat} (h : p' + g * d = p + K) (hd : 0 < d) (h2 : g ≤ p / d + 1) (hp' : p' < K) (hb : p'' + K * o = p' + d) (hp'' : p'' < K) (hdK : d < K) : g = p / d + 1 ∧ p'' = p % d := by
  have hdm := Nat.div_add_mod p d
  have hm := Nat.mod_lt p hd
  have hg : p < g * d := by omega
  have e : g = p / d + 1 := by
    rcases Nat.lt_or_eq_of_le h2 with h3 | h3
    · exfalso
      have : g ≤ p / d := by omega
      have : g * d ≤ p / d * d := Nat.mul_le_mul_right _ this
      rw [Nat.mul_comm (p / d)] at this
      omega
    · exact h3
  refine ⟨e, ?_⟩
  rw [e, Nat.add_mul, Nat.one_mul, Nat.mul_comm (p / d)] at h
  rcases Nat.lt_or_ge o 1 with ho | ho
  · have : o = 0 := by omega
    subst this
    omega
  · rcases Nat.lt_or_ge o 2 with ho2 | ho2
    · have : o = 1 := by omega
      subst this
      omega
    · have : K * 2 ≤ K * o := Nat.mul_le_mul_left _ ho2
      omega

theorem LongAt.start {Z : Nat} {D R : List Nat} {J : Nat} (oR : Ok R) (hR : val R = Z) (h : Z < val D * BB ^ J) : LongAt Z D R [] J :=
  ⟨oR, Ok.nil, by simp [val, hR], by rw [hR]; exact h⟩

theorem long_bound {m n z d s : Nat} (hz : z < BB ^ m) (hnm : n ≤ m) (hs : s < 32) (hd : BB ^ n ≤ d * 2) : z * 2 ^ s < d * BB ^ (m - n + 1) := by
  have h1 : 2 ^ s ≤ 2147483648 := Nat.le_trans (Nat.pow_le_pow_right (by decide) (show s ≤ 31 by omega)) (by decide)
  have h2 : z * 2 ^ s ≤ z * 2147483648 := Nat.mul_le_mul_left _ h1
  have h3 : BB ^ n * BB ^ (m - n + 1) ≤ d * 2 * BB ^ (m - n + 1) := Nat.mul_le_mul_right _ hd
  rw [← Nat.pow_add, show n + (m - n + 1) = m + 1 from by omega, Nat.pow_succ] at h3
  have h4 : d * 2 * BB ^ (m - n + 1) = 2 * (d * BB ^ (m - n + 1)) := by rw [Nat.mul_comm d 2, Nat.mul_assoc]
  rw [h4] at h3
  have h5 : BB ^ m * BB = 2 * (BB ^ m * 2147483648) := by
    rw [show BB = 2 * 2147483648 from rfl, Nat.mul_left_comm]
  have h6 : z * 2147483648 < BB ^ m * 2147483648 := Nat.mul_lt_mul_of_pos_right hz (by decide)
  omega

theorem long_top {D : List Nat} {k : Nat} (h : D.length = k + 1) (ht : 2147483648 ≤ lm D k) : BB ^ (k + 1) ≤ val D * 2 := by
  have e : val D = val (D.take (k + 1)) := by rw [List.take_of_length_le (by omega)]
  rw [e, take_succ_any, Nat.pow_succ]
  have : BB ^ k * 2147483648 ≤ BB ^ k * lm D k := Nat.mul_le_mul_left _ ht
  have h5 : BB ^ k * BB = 2 * (BB ^ k * 2147483648) := by rw [show BB = 2 * 2147483648 from rfl, Nat.mul_left_comm]
  omega

/-- the shifted divisor fits in as many limbs, and its top bit is 1 -/
theorem shifted_top {ys D0 : List Nat} {k s : Nat} (hy : ys.length = k + 1) (oy : Ok ys) (oD : Ok D0) (hD : D0.length = k + 2) (hv : val D0 = val ys * 2 ^ s) (h1 : 2147483648 ≤ lm ys k * 2 ^ s) (h2 : lm ys k * 2 ^ s < BB) :
    lm D0 (k + 1) = 0 ∧ val (D0.take (k + 1)) = val ys * 2 ^ s ∧ 2147483648 ≤ lm (D0.take (k + 1)) k := by
  have ey : val ys = val (ys.take k) + BB ^ k * lm ys k := by rw [← take_succ_any, List.take_of_length_le (by omega)]
  have hyl := val_lt (oy.take k)
  rw [List.length_take, Nat.min_eq_left (by omega)] at hyl
  have hlt : val ys * 2 ^ s < BB ^ (k + 1) := by
    have a1 : val ys < BB ^ k * (lm ys k + 1) := by rw [ey, Nat.mul_add, Nat.mul_one]; omega
    have hp : 0 < 2 ^ s := Nat.two_pow_pos s
    have a2 : val ys * 2 ^ s < BB ^ k * (lm ys k + 1) * 2 ^ s := Nat.mul_lt_mul_of_pos_right a1 hp
    have a3 : (lm ys k + 1) * 2 ^ s ≤ BB := by
      obtain ⟨r, hr⟩ : ∃ r, BB = 2 ^ s * r := by
        rcases Nat.lt_or_ge s 33 with h | h
        · exact ⟨2 ^ (32 - s), by rw [← Nat.pow_add, show s + (32 - s) = 32 from by omega]; rfl⟩
        · exfalso
          have : 2 ^ 33 ≤ 2 ^ s := Nat.pow_le_pow_right (by decide) h
          have : lm ys k = 0 := by
            rcases Nat.eq_zero_or_pos (lm ys k) with h0 | h0
            · exact h0
            · have : 1 * 2 ^ s ≤ lm ys k * 2 ^ s := Nat.mul_le_mul_right _ h0
              have h33 : (2 : Nat) ^ 33 = 2 * BB := by decide
              omega
          rw [this] at h1; omega
      rw [hr] at h2 ⊢
      rw [Nat.mul_comm (lm ys k)] at h2
      have := Nat.lt_of_mul_lt_mul_left h2
      rw [Nat.mul_comm (lm ys k + 1)]
      exact Nat.mul_le_mul_left _ this
    rw [Nat.pow_succ]
    have a4 : BB ^ k * (lm ys k + 1) * 2 ^ s ≤ BB ^ k * BB := by rw [Nat.mul_assoc]; exact Nat.mul_le_mul_left _ a3
    omega
  have e0 : val D0 = val (D0.take (k + 1)) + BB ^ (k + 1) * lm D0 (k + 1) := by rw [← take_succ_any, List.take_of_length_le (by omega)]
  have hz : lm D0 (k + 1) = 0 := by
    rcases Nat.eq_zero_or_pos (lm D0 (k + 1)) with h0 | h0
    · exact h0
    · exfalso
      have : BB ^ (k + 1) ≤ BB ^ (k + 1) * lm D0 (k + 1) := Nat.le_mul_of_pos_right _ h0
      omega
  rw [hz, Nat.mul_zero, Nat.add_zero] at e0
  refine ⟨hz, by omega, ?_⟩
  rw [lm_take _ _ _ (by omega)]
  have e1 : val D0 = val (D0.take k) + BB ^ k * lm D0 k := by rw [e0, take_succ_any]
  have hDl := val_lt (oD.take k)
  rw [List.length_take, Nat.min_eq_left (by omega)] at hDl
  have b1 : BB ^ k * (lm ys k * 2 ^ s) ≤ val D0 := by
    rw [hv, ey, Nat.add_mul, Nat.mul_assoc]; omega
  have b2 : BB ^ k * (lm ys k * 2 ^ s) < BB ^ k * (lm D0 k + 1) := by rw [Nat.mul_add, Nat.mul_one]; omega
  have := Nat.lt_of_mul_lt_mul_left b2
  omega

/-- what the division comes to -/
theorem long_end {x y s : Nat} {D R Qs : List Nat} (h : LongAt (x * 2 ^ s) D R Qs 0) (hD : val D = y * 2 ^ s) (hy : 0 < y) : val Qs = x / y ∧ val R / 2 ^ s = x % y := by
  have hs := h.sum
  have hl := h.lt
  rw [Nat.pow_zero, Nat.mul_one, hD] at hs hl
  have hp : 0 < 2 ^ s := Nat.two_pow_pos s
  obtain ⟨r, hr⟩ : ∃ r, val R = r * 2 ^ s := by
    refine ⟨x - val Qs * y, ?_⟩
    rw [Nat.sub_mul, Nat.mul_assoc]
    omega
  rw [hr] at hs hl ⊢
  rw [← Nat.mul_assoc, ← Nat.add_mul] at hs
  have hx : x = val Qs * y + r := Nat.eq_of_mul_eq_mul_right hp hs
  have hr2 : r < y := Nat.lt_of_mul_lt_mul_right hl
  rw [Nat.mul_div_cancel _ hp, hx]
  constructor
  · rw [Nat.mul_comm, Nat.mul_add_div hy, Nat.div_eq_of_lt hr2, Nat.add_zero]
  · rw [Nat.mul_comm, Nat.mul_add_mod, Nat.mod_eq_of_lt hr2]
end Go.Proofs.Ytjceiakgedkmcaa
