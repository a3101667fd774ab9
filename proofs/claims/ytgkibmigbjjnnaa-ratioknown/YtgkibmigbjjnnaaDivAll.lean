/- limb.DivMod, limb.DivSmall and limb.Gcd, of all numbers. -/
import Derived.Test.YtgkibmigbjjnnaaSeg
import Derived.Laws.Bits64b
import Derived.BigQuiet
import Derived.Deep.LoopGhost
import Derived.Deep.QuietTactic
import Derived.RegionTactic
import Derived.Test.YtgkibmigbjjnnaaDivMod
import Derived.Test.YtgkibmigbjjnnaaLaw
namespace Go.Proofs.Ytgkibmigbjjnnaa
open Go.RowKit

/-- J limbs of the quotient to go: Z is the shifted number, D the shifted divisor -/
structure LongAt (Z : Nat) (D R Qs : List Nat) (J : Nat) : Prop where
  okR : Ok R
  okQ : Ok Qs
  sum : Z = val Qs * BB ^ J * val D + val R
  lt : val R < val D * BB ^ J

theorem long_parts {R1 P R2 D : List Nat} {j n : Nat} (h1 : R1.length = j) (hP : P.length = n + 1) (hDl : D.length = n) (oD : Ok D) (h : val (R1 ++ (P ++ R2)) < val D * BB ^ (j + 1)) :
    val R2 = 0 ∧ val (R1 ++ (P ++ R2)) = val R1 + BB ^ j * val P ∧ val P < val D * BB := by
  have hD := val_lt oD
  rw [hDl] at hD
  have e : val (R1 ++ (P ++ R2)) = val R1 + BB ^ j * (val P + BB ^ (n + 1) * val R2) := by rw [val_append, val_append, h1, hP]
  have hR2 : val R2 = 0 := by
    rcases Nat.eq_zero_or_pos (val R2) with h0 | h0
    · exact h0
    · exfalso
      have e1 : BB ^ j * (BB ^ (n + 1) * val R2) = BB ^ n * BB ^ (j + 1) * val R2 := by
        rw [← Nat.mul_assoc, ← Nat.pow_add, ← Nat.pow_add, show j + (n + 1) = n + (j + 1) from by omega]
      have e2 : BB ^ n * BB ^ (j + 1) ≤ BB ^ n * BB ^ (j + 1) * val R2 := Nat.le_mul_of_pos_right _ h0
      have e3 : val D * BB ^ (j + 1) ≤ BB ^ n * BB ^ (j + 1) := Nat.mul_le_mul_right _ (by omega)
      rw [e, Nat.mul_add, e1] at h
      omega
  refine ⟨hR2, ?_, ?_⟩
  · rw [e, hR2, Nat.mul_zero, Nat.add_zero]
  · rw [e, hR2, Nat.mul_zero, Nat.add_zero, Nat.pow_succ] at h
    have h2 : BB ^ j * val P < BB ^ j * (val D * BB) := by
      have e4 : val D * (BB ^ j * BB) = BB ^ j * (val D * BB) := by rw [Nat.mul_left_comm]
      omega
    exact Nat.lt_of_mul_lt_mul_left h2

theorem LongAt.step {Z q : Nat} {D R1 P R2 P' Qs : List Nat} {j n : Nat} (h : LongAt Z D (R1 ++ (P ++ R2)) Qs (j + 1)) (h1 : R1.length = j) (hP : P.length = n + 1) (hDl : D.length = n) (oD : Ok D) (oP' : Ok P')
    (hq : q = val P / val D) (hr : val P' = val P % val D) (hDp : 0 < val D) : LongAt Z D (R1 ++ (P' ++ R2)) (q :: Qs) j := by
  obtain ⟨hR2, e1, hPD⟩ := long_parts h1 hP hDl oD h.lt
  have e2 : val (R1 ++ (P' ++ R2)) = val R1 + BB ^ j * val P' := by rw [val_append, val_append, h1, hR2, Nat.mul_zero, Nat.add_zero]
  have o1 : Ok R1 := fun x hx => h.okR x (List.mem_append_left _ hx)
  have o2 : Ok R2 := fun x hx => h.okR x (List.mem_append_right _ (List.mem_append_right _ hx))
  have hv1 := val_lt o1
  rw [h1] at hv1
  have hdm := Nat.div_add_mod (val P) (val D)
  refine ⟨o1.append (oP'.append o2), Ok.cons ?_ h.okQ, ?_, ?_⟩
  · rw [hq]; exact Nat.div_lt_of_lt_mul hPD
  · rw [h.sum, e1, e2, hr, ← hq] at *
    simp only [val]
    rw [Nat.pow_succ]
    have e3 : BB ^ j * val P = BB ^ j * (val D * q) + BB ^ j * (val P % val D) := by rw [← Nat.mul_add, hdm]
    rw [e3]
    have e4 : (q + BB * val Qs) * BB ^ j * val D = BB ^ j * (val D * q) + val Qs * (BB ^ j * BB) * val D := by grind
    omega
  · rw [e2, hr]
    have h2 : val P % val D < val D := Nat.mod_lt _ hDp
    have h3 : BB ^ j * (val P % val D + 1) ≤ BB ^ j * val D := Nat.mul_le_mul_left _ h2
    rw [Nat.mul_add, Nat.mul_one] at h3
    rw [Nat.mul_comm (val D)]
    omega

/-- taken away without a borrow: the guess was right -/
theorem take_right {p p' d g : Nat} (h : p' + g * d = p) (hd : 0 < d) (h1 : p / d ≤ g) : g = p / d ∧ p' = p % d := by
  have hg : g * d ≤ p := by omega
  have h2 : g ≤ p / d := (Nat.le_div_iff_mul_le hd).2 hg
  have e : g = p / d := by omega
  refine ⟨e, ?_⟩
  have hdm := Nat.div_add_mod p d
  rw [← e, Nat.mul_comm] at hdm
  omega

/-- taken away with a borrow: it was one more, and what is given back mends it -/
theorem take_over {p p' p'' d g K o : Nat} (h : p' + g * d = p + K) (hd : 0 < d) (h2 : g ≤ p / d + 1) (hp' : p' < K) (hb : p'' + K * o = p' + d) (hp'' : p'' < K) (hdK : d < K) : g = p / d + 1 ∧ p'' = p % d := by
  have hdm := Nat.div_add_mod p d
  have hm := Nat.mod_lt p hd
  have hg : p < g * d := by omega
  have e : g = p / d + 1 := by
    rcases Nat.lt_or_eq_of_le h2 with h3 | h3
    · exfalso
      have : g ≤ p / d := by omega
      have : g * d ≤ p / d * d := Nat.mul_le_mul_right _ this
      rw [Nat.mul_comm (p / d)] at this
      omega
    · exact h3
  refine ⟨e, ?_⟩
  rw [e, Nat.add_mul, Nat.one_mul, Nat.mul_comm (p / d)] at h
  rcases Nat.lt_or_ge o 1 with ho | ho
  · have : o = 0 := by omega
    subst this
    omega
  · rcases Nat.lt_or_ge o 2 with ho2 | ho2
    · have : o = 1 := by omega
      subst this
      omega
    · have : K * 2 ≤ K * o := Nat.mul_le_mul_left _ ho2
      omega

theorem LongAt.start {Z : Nat} {D R : List Nat} {J : Nat} (oR : Ok R) (hR : val R = Z) (h : Z < val D * BB ^ J) : LongAt Z D R [] J :=
  ⟨oR, Ok.nil, by simp [val, hR], by rw [hR]; exact h⟩

theorem long_bound {m n z d s : Nat} (hz : z < BB ^ m) (hnm : n ≤ m) (hs : s < 32) (hd : BB ^ n ≤ d * 2) : z * 2 ^ s < d * BB ^ (m - n + 1) := by
  have h1 : 2 ^ s ≤ 2147483648 := Nat.le_trans (Nat.pow_le_pow_right (by decide) (show s ≤ 31 by omega)) (by decide)
  have h2 : z * 2 ^ s ≤ z * 2147483648 := Nat.mul_le_mul_left _ h1
  have h3 : BB ^ n * BB ^ (m - n + 1) ≤ d * 2 * BB ^ (m - n + 1) := Nat.mul_le_mul_right _ hd
  rw [← Nat.pow_add, show n + (m - n + 1) = m + 1 from by omega, Nat.pow_succ] at h3
  have h4 : d * 2 * BB ^ (m - n + 1) = 2 * (d * BB ^ (m - n + 1)) := by rw [Nat.mul_comm d 2, Nat.mul_assoc]
  rw [h4] at h3
  have h5 : BB ^ m * BB = 2 * (BB ^ m * 2147483648) := by
    rw [show BB = 2 * 2147483648 from rfl, Nat.mul_left_comm]
  have h6 : z * 2147483648 < BB ^ m * 2147483648 := Nat.mul_lt_mul_of_pos_right hz (by decide)
  omega

theorem long_top {D : List Nat} {k : Nat} (h : D.length = k + 1) (ht : 2147483648 ≤ lm D k) : BB ^ (k + 1) ≤ val D * 2 := by
  have e : val D = val (D.take (k + 1)) := by rw [List.take_of_length_le (by omega)]
  rw [e, take_succ_any, Nat.pow_succ]
  have : BB ^ k * 2147483648 ≤ BB ^ k * lm D k := Nat.mul_le_mul_left _ ht
  have h5 : BB ^ k * BB = 2 * (BB ^ k * 2147483648) := by rw [show BB = 2 * 2147483648 from rfl, Nat.mul_left_comm]
  omega

/-- the shifted divisor fits in as many limbs, and its top bit is 1 -/
theorem shifted_top {ys D0 : List Nat} {k s : Nat} (hy : ys.length = k + 1) (oy : Ok ys) (oD : Ok D0) (hD : D0.length = k + 2) (hv : val D0 = val ys * 2 ^ s) (h1 : 2147483648 ≤ lm ys k * 2 ^ s) (h2 : lm ys k * 2 ^ s < BB) :
    lm D0 (k + 1) = 0 ∧ val (D0.take (k + 1)) = val ys * 2 ^ s ∧ 2147483648 ≤ lm (D0.take (k + 1)) k := by
  have ey : val ys = val (ys.take k) + BB ^ k * lm ys k := by rw [← take_succ_any, List.take_of_length_le (by omega)]
  have hyl := val_lt (oy.take k)
  rw [List.length_take, Nat.min_eq_left (by omega)] at hyl
  have hlt : val ys * 2 ^ s < BB ^ (k + 1) := by
    have a1 : val ys < BB ^ k * (lm ys k + 1) := by rw [ey, Nat.mul_add, Nat.mul_one]; omega
    have hp : 0 < 2 ^ s := Nat.two_pow_pos s
    have a2 : val ys * 2 ^ s < BB ^ k * (lm ys k + 1) * 2 ^ s := Nat.mul_lt_mul_of_pos_right a1 hp
    have a3 : (lm ys k + 1) * 2 ^ s ≤ BB := by
      obtain ⟨r, hr⟩ : ∃ r, BB = 2 ^ s * r := by
        rcases Nat.lt_or_ge s 33 with h | h
        · exact ⟨2 ^ (32 - s), by rw [← Nat.pow_add, show s + (32 - s) = 32 from by omega]; rfl⟩
        · exfalso
          have : 2 ^ 33 ≤ 2 ^ s := Nat.pow_le_pow_right (by decide) h
          have : lm ys k = 0 := by
            rcases Nat.eq_zero_or_pos (lm ys k) with h0 | h0
            · exact h0
            · have : 1 * 2 ^ s ≤ lm ys k * 2 ^ s := Nat.mul_le_mul_right _ h0
              have h33 : (2 : Nat) ^ 33 = 2 * BB := by decide
              omega
          rw [this] at h1; omega
      rw [hr] at h2 ⊢
      rw [Nat.mul_comm (lm ys k)] at h2
      have := Nat.lt_of_mul_lt_mul_left h2
      rw [Nat.mul_comm (lm ys k + 1)]
      exact Nat.mul_le_mul_left _ this
    rw [Nat.pow_succ]
    have a4 : BB ^ k * (lm ys k + 1) * 2 ^ s ≤ BB ^ k * BB := by rw [Nat.mul_assoc]; exact Nat.mul_le_mul_left _ a3
    omega
  have e0 : val D0 = val (D0.take (k + 1)) + BB ^ (k + 1) * lm D0 (k + 1) := by rw [← take_succ_any, List.take_of_length_le (by omega)]
  have hz : lm D0 (k + 1) = 0 := by
    rcases Nat.eq_zero_or_pos (lm D0 (k + 1)) with h0 | h0
    · exact h0
    · exfalso
      have : BB ^ (k + 1) ≤ BB ^ (k + 1) * lm D0 (k + 1) := Nat.le_mul_of_pos_right _ h0
      omega
  rw [hz, Nat.mul_zero, Nat.add_zero] at e0
  refine ⟨hz, by omega, ?_⟩
  rw [lm_take _ _ _ (by omega)]
  have e1 : val D0 = val (D0.take k) + BB ^ k * lm D0 k := by rw [e0, take_succ_any]
  have hDl := val_lt (oD.take k)
  rw [List.length_take, Nat.min_eq_left (by omega)] at hDl
  have b1 : BB ^ k * (lm ys k * 2 ^ s) ≤ val D0 := by
    rw [hv, ey, Nat.add_mul, Nat.mul_assoc]; omega
  have b2 : BB ^ k * (lm ys k * 2 ^ s) < BB ^ k * (lm D0 k + 1) := by rw [Nat.mul_add, Nat.mul_one]; omega
  have := Nat.lt_of_mul_lt_mul_left b2
  omega

/-- what the division comes to -/
theorem long_end {x y s : Nat} {D R Qs : List Nat} (h : LongAt (x * 2 ^ s) D R Qs 0) (hD : val D = y * 2 ^ s) (hy : 0 < y) : val Qs = x / y ∧ val R / 2 ^ s = x % y := by
  have hs := h.sum
  have hl := h.lt
  rw [Nat.pow_zero, Nat.mul_one, hD] at hs hl
  have hp : 0 < 2 ^ s := Nat.two_pow_pos s
  obtain ⟨r, hr⟩ : ∃ r, val R = r * 2 ^ s := by
    refine ⟨x - val Qs * y, ?_⟩
    rw [Nat.sub_mul, Nat.mul_assoc]
    omega
  rw [hr] at hs hl ⊢
  rw [← Nat.mul_assoc, ← Nat.add_mul] at hs
  have hx : x = val Qs * y + r := Nat.eq_of_mul_eq_mul_right hp hs
  have hr2 : r < y := Nat.lt_of_mul_lt_mul_right hl
  rw [Nat.mul_div_cancel _ hp, hx]
  constructor
  · rw [Nat.mul_comm, Nat.mul_add_div hy, Nat.div_eq_of_lt hr2, Nat.add_zero]
  · rw [Nat.mul_comm, Nat.mul_add_mod, Nat.mod_eq_of_lt hr2]
end Go.Proofs.Ytgkibmigbjjnnaa

namespace Go.Proofs.Ytgkibmigbjjnnaa
open Go.RowKit

/-- a slice's cells lie in another block -/
def Apart (v : Value) (xs : List Nat) (g : Nat) : Prop := xs ≠ [] → ∀ ad n c, v = .slice (some ad) n c → ad.block ≠ g

structure ShlAt (xs : List Nat) (s k q : Nat) (A : List Nat) : Prop where
  len : A.length = k
  ok : Ok A
  q1 : q < 2 ^ s
  sum : val A + BB ^ k * q = 2 ^ s * val (xs.take k)

theorem ShlAt.zero (xs : List Nat) (s : Nat) : ShlAt xs s 0 0 [] := ⟨rfl, Ok.nil, Nat.two_pow_pos s, by simp [val]⟩

theorem ShlAt.step {xs : List Nat} {s k q : Nat} {A : List Nat} (h : ShlAt xs s k q A) (hx : lm xs k < BB) :
    ShlAt xs s (k + 1) ((q + lm xs k * 2 ^ s) / BB) (A ++ [(q + lm xs k * 2 ^ s) % BB]) := by
  have hq := h.q1
  refine ⟨by simp [h.len], h.ok.append (Ok.cons (Nat.mod_lt _ BB_pos) Ok.nil), ?_, ?_⟩
  · rw [Nat.div_lt_iff_lt_mul BB_pos]
    have : (lm xs k + 1) * 2 ^ s ≤ BB * 2 ^ s := Nat.mul_le_mul_right _ hx
    rw [Nat.add_mul, Nat.one_mul] at this
    rw [Nat.mul_comm (2 ^ s) BB]; omega
  · rw [take_succ_any, val_append, h.len, Nat.pow_succ]
    simp only [val, Nat.mul_zero, Nat.add_zero]
    have hs := h.sum
    have e : BB ^ k * ((q + lm xs k * 2 ^ s) % BB) + BB ^ k * BB * ((q + lm xs k * 2 ^ s) / BB) = BB ^ k * (q + lm xs k * 2 ^ s) := by
      rw [Nat.mul_assoc, ← Nat.mul_add, Nat.mod_add_div]
    have e2 : BB ^ k * (q + lm xs k * 2 ^ s) = BB ^ k * q + BB ^ k * (lm xs k * 2 ^ s) := Nat.mul_add _ _ _
    have e3 : 2 ^ s * (val (xs.take k) + BB ^ k * lm xs k) = 2 ^ s * val (xs.take k) + BB ^ k * (lm xs k * 2 ^ s) := by
      rw [Nat.mul_add, Nat.mul_left_comm, Nat.mul_comm (2 ^ s) (lm xs k)]
    omega

theorem shl_word (q x s : Nat) (hq : q < 2 ^ s) (hx : x < 4294967296) (hs : s < 32) : bits .or .u64 (q : Int) (IntKind.u64.wrap ((x : Int) * 2 ^ s)) = ((q + x * 2 ^ s : Nat) : Int) := by
  have hp : 2 ^ s ≤ 4294967296 := Nat.le_trans (Nat.pow_le_pow_right (by decide) (show s ≤ 32 by omega)) (by decide)
  have hm : x * 2 ^ s ≤ 4294967295 * 4294967296 := Nat.mul_le_mul (by omega) hp
  have e1 : (x : Int) * 2 ^ s = ((x * 2 ^ s : Nat) : Int) := by rw [Int.natCast_mul, Int.natCast_pow]; rfl
  have e2 : IntKind.u64.wrap ((x * 2 ^ s : Nat) : Int) = ((x * 2 ^ s : Nat) : Int) := by rw [IntKind.wrap_u64]; omega
  rw [e1, e2, bits_or_u64_nat q (x * 2 ^ s) (by omega) (by omega)]
  congr 1
  have := Nat.two_pow_add_eq_or_of_lt (i := s) (b := q) hq x
  rw [Nat.or_comm, Nat.mul_comm x, ← this]; omega

theorem shl_next {w wr : World} {base g N cap s k q : Nat} {xs A R1 P R2 : List Nat} {t : Int} (hat : ShlAt xs s k q A) (hx : lm xs k < BB) (hlt : k < xs.length) (hP : P.length = xs.length + 1)
    (hsg : Seg wr base g N cap (R1 ++ ((A ++ P.drop k) ++ R2))) (hgb : w.grownBy wr (some g)) (ht : t = ((q + lm xs k * 2 ^ s : Nat) : Int)) :
    ∃ (k' q' : Nat) (A' : List Nat), k' ≤ xs.length ∧ Value.int .i64 (↑k + 1) = .int .i64 k' ∧ Value.int .u64 (t / 4294967296) = .int .u64 q' ∧ ShlAt xs s k' q' A' ∧
      Seg (wr.setCell ⟨g, R1.length + k, none⟩ (.int .u32 (t % 4294967296))) base g N cap (R1 ++ ((A' ++ P.drop k') ++ R2)) ∧ w.grownBy (wr.setCell ⟨g, R1.length + k, none⟩ (.int .u32 (t % 4294967296))) (some g) := by
  have e1 : t / 4294967296 = (((q + lm xs k * 2 ^ s) / BB : Nat) : Int) := by subst ht; unfold BB; omega
  have e2 : t % 4294967296 = (((q + lm xs k * 2 ^ s) % BB : Nat) : Int) := by subst ht; unfold BB; omega
  refine ⟨k + 1, _, _, hlt, by go_num, by rw [e1], hat.step hx, ?_, ?_⟩
  · rw [e2]; exact hsg.set _ _ (mid_set R1 A P R2 k _ hat.len (by omega))
  · exact gb_set hgb _ _

set_option maxRecDepth 100000 in
set_option maxHeartbeats 1000000 in
theorem shiftInto_any (va : Value) (xs : List Nat) (base g N cap c' s : Nat) (R1 P R2 : List Nat) (w : World) (h : Nums w va xs) (hap : Apart va xs g) (hs : s < 32)
    (hseg : Seg w base g N cap (R1 ++ (P ++ R2))) (hP : P.length = xs.length + 1) (_hN : N ≤ 4000000000) :
    Calls Try.prog 111 #[.slice (some ⟨g, R1.length, none⟩) (xs.length + 1) c', va, .int .i64 s] w fun e w' => e = .returned (.tuple #[]) ∧
      ∃ P', P'.length = xs.length + 1 ∧ Ok P' ∧ val P' = val xs * 2 ^ s ∧ Seg w' base g N cap (R1 ++ (P' ++ R2)) ∧ w.grownBy w' (some g) := by
  have HOK := hide h.ok
  have HL : Hid (R1.length + (xs.length + 1 + R2.length) = N) := by have := hseg.2; rw [List.length_append, List.length_append, hP] at this; exact this
  have hl : R1.length + xs.length + 1 ≤ N := by have := HL.out; omega
  obtain ⟨ho, a, cap1, rfl, hl1, hm1, hc1⟩ := h
  have HC := hide hc1
  have HAP := hide hap
  have HP := hide hP
  clear hc1 hap hP
  unfold maxLen at hm1
  go_enter Try.func111, Try.ntmps111
  go_wp2
  go_loopw [6, 11] (fun qv iv wr => ∃ (k q : Nat) (A : List Nat), k ≤ xs.length ∧ iv = .int .i64 k ∧ qv = .int .u64 q ∧ ShlAt xs s k q A ∧ Seg wr base g N cap (R1 ++ ((A ++ P.drop k) ++ R2)) ∧ w.grownBy wr (some g)) (fun _ iv _ => xs.length - (intOf iv).toNat)
  case atStart => exact ⟨0, 0, [], Nat.zero_le _, rfl, rfl, ShlAt.zero _ _, by simpa using hseg, World.grownBy.refl _ _⟩
  case round =>
    clear hseg
    obtain ⟨k, q, A, hk, rfl, rfl, hat, hsg, hgb⟩ := hrel
    have hq := hat.q1
    have hq32 : q < 4294967296 := Nat.lt_of_lt_of_le hq (Nat.pow_le_pow_right (by decide) (show s ≤ 32 by omega))
    have HQ := hide hq
    clear hq
    by_cases hlt : k < xs.length
    · obtain ⟨b, off, rfl, hx⟩ := HC.out (ne_nil hlt)
      have hbg : b ≠ g := HAP.out (ne_nil hlt) _ _ _ rfl
      have hx' : wr.cell? ⟨b, off + k, none⟩ = some (.int .u32 (lm xs k : Nat)) := hgb.cell (hx k hlt) (by simpa using hbg)
      have hxb := HOK.out.at k
      unfold BB at hxb
      have hf := hsg.free (R1.length + k)
      have hcl := hsg.cell (R1.length + k) (by omega)
      rw [mid_lm R1 A P R2 k hat.len (by rw [HP.out]; omega)] at hcl
      have HAT := hide hat
      have HSG := hide hsg
      have HGB := hide hgb
      clear hat hsg hgb hx
      have HW := hide (shl_word q (lm xs k) s HQ.out hxb hs)
      go_wp2
      refine ⟨shl_next HAT.out (HOK.out.at k) hlt HP.out HSG.out HGB.out HW.out, ?_⟩
      simp [intOf]; omega
    · have hkL : k = xs.length := by omega
      subst hkL
      have hf := hsg.free (R1.length + xs.length)
      have hcl := hsg.cell (R1.length + xs.length) (by omega)
      have hset := hsg.set (R1.length + xs.length) q (mid_set R1 A P R2 xs.length q hat.len (by rw [HP.out]; omega))
      rw [List.drop_eq_nil_of_le (by rw [HP.out]; exact Nat.le_refl _), List.append_nil] at hset
      have HSET := hide hset
      have HGB := hide (gb_set hgb (R1.length + xs.length) (.int .u32 (q : Nat)))
      have HAT := hide hat
      clear hset hsg hgb hat
      go_wp2
      go_end0
      refine ⟨rfl, A ++ [q], by rw [List.length_append, HAT.out.len]; rfl, HAT.out.ok.append (Ok.cons hq32 Ok.nil), ?_, HSET.out, HGB.out⟩
      have hsum := HAT.out.sum
      rw [List.take_length] at hsum
      rw [val_append, HAT.out.len]; simp only [val, Nat.mul_zero, Nat.add_zero]
      rw [hsum, Nat.mul_comm]
end Go.Proofs.Ytgkibmigbjjnnaa

namespace Go.Proofs.Ytgkibmigbjjnnaa
open Go.RowKit

structure TakeAt (P D : List Nat) (c k q b : Nat) (A : List Nat) : Prop where
  len : A.length = k
  ok : Ok A
  q1 : q < BB
  b1 : b ≤ 1
  sum : val A + c * val (D.take k) = val (P.take k) + BB ^ k * (q + b)

theorem TakeAt.zero (P D : List Nat) (c : Nat) : TakeAt P D c 0 0 0 [] := ⟨rfl, Ok.nil, BB_pos, by omega, by simp [val]⟩

theorem TakeAt.step {P D : List Nat} {c k q b d b' : Nat} {A : List Nat} (h : TakeAt P D c k q b A) (hD : lm D k < BB) (hc : c < BB) (hd : d < BB) (hb : b' ≤ 1)
    (e : d + (q + c * lm D k) % BB + b = lm P k + BB * b') : TakeAt P D c (k + 1) ((q + c * lm D k) / BB) b' (A ++ [d]) := by
  have hq := h.q1
  have hm := mul_bound _ _ hc hD
  refine ⟨by simp [h.len], h.ok.append (Ok.cons hd Ok.nil), ?_, hb, ?_⟩
  · rw [Nat.div_lt_iff_lt_mul BB_pos]; unfold BB at *; omega
  · rw [take_succ_any, take_succ_any, val_append, h.len, Nat.pow_succ]
    simp only [val, Nat.mul_zero, Nat.add_zero]
    have hs := h.sum
    have e1 := Nat.mod_add_div (q + c * lm D k) BB
    have e2 : BB ^ k * (d + (q + c * lm D k) % BB + b) = BB ^ k * (lm P k + BB * b') := by rw [e]
    have e3 : BB ^ k * ((q + c * lm D k) % BB + BB * ((q + c * lm D k) / BB)) = BB ^ k * (q + c * lm D k) := by rw [e1]
    have e4 : c * (val (D.take k) + BB ^ k * lm D k) = c * val (D.take k) + BB ^ k * (c * lm D k) := by rw [Nat.mul_add, Nat.mul_left_comm]
    have e5 : BB ^ k * BB * ((q + c * lm D k) / BB + b') = BB ^ k * (BB * ((q + c * lm D k) / BB)) + BB ^ k * (BB * b') := by rw [Nat.mul_assoc, Nat.mul_add, Nat.mul_add]
    rw [Nat.mul_add, Nat.mul_add, Nat.mul_add] at e2
    rw [Nat.mul_add, Nat.mul_add] at e3
    rw [Nat.mul_add] at hs
    rw [e4, e5]
    omega

theorem take_words (p low b : Nat) (hp : p < 4294967296) (hl : low < 4294967296) (hb : b ≤ 1) :
    ∃ d b' : Nat, d < BB ∧ b' ≤ 1 ∧ d + low + b = p + BB * b' ∧ IntKind.u64.wrap (IntKind.u64.wrap ((p : Int) - (low : Int)) - (b : Int)) / 9223372036854775808 = (b' : Int) ∧ IntKind.u64.wrap (IntKind.u64.wrap ((p : Int) - (low : Int)) - (b : Int)) % 4294967296 = (d : Int) := by
  rw [IntKind.wrap_u64, IntKind.wrap_u64]
  unfold BB
  by_cases h : low + b ≤ p
  · exact ⟨p - low - b, 0, by omega, by omega, by omega, by omega, by omega⟩
  · exact ⟨p + 4294967296 - low - b, 1, by omega, by omega, by omega, by omega, by omega⟩

theorem take_next {w wr : World} {base g N cap c k q b d b' : Nat} {P D A R1 R2 : List Nat} {t u : Int} (hat : TakeAt P D c k q b A) (hD : lm D k < BB) (hc : c < BB) (hlt : k < D.length) (hP : P.length = D.length + 1)
    (hsg : Seg wr base g N cap (R1 ++ ((A ++ P.drop k) ++ R2))) (hgb : w.grownBy wr (some g)) (ht : t = ((q + c * lm D k : Nat) : Int)) (hd : d < BB) (hb : b' ≤ 1) (e : d + (q + c * lm D k) % BB + b = lm P k + BB * b')
    (e1 : u / 9223372036854775808 = (b' : Int)) (e2 : u % 4294967296 = (d : Int)) :
    ∃ (k' q' c' : Nat) (A' : List Nat), k' ≤ D.length ∧ Value.int .i64 (↑k + 1) = .int .i64 k' ∧ Value.int .u64 (t / 4294967296) = .int .u64 q' ∧ Value.int .u64 (u / 9223372036854775808) = .int .u64 c' ∧ TakeAt P D c k' q' c' A' ∧
      Seg (wr.setCell ⟨g, R1.length + k, none⟩ (.int .u32 (u % 4294967296))) base g N cap (R1 ++ ((A' ++ P.drop k') ++ R2)) ∧ w.grownBy (wr.setCell ⟨g, R1.length + k, none⟩ (.int .u32 (u % 4294967296))) (some g) := by
  have e3 : t / 4294967296 = (((q + c * lm D k) / BB : Nat) : Int) := by subst ht; unfold BB; omega
  refine ⟨k + 1, _, _, _, hlt, by go_num, by rw [e3], by rw [e1], hat.step hD hc hd hb e, ?_, ?_⟩
  · rw [e2]; exact hsg.set _ _ (mid_set R1 A P R2 k _ hat.len (by omega))
  · exact gb_set hgb _ _

theorem take_last {P D A : List Nat} {c q b d b' : Nat} (h : TakeAt P D c D.length q b A) (hP : P.length = D.length + 1) (e : d + q + b = lm P D.length + BB * b') :
    val (A ++ [d]) + c * val D = val P + BB ^ (D.length + 1) * b' := by
  have hs := h.sum
  rw [List.take_length] at hs
  have e1 : val P = val (P.take D.length) + BB ^ D.length * lm P D.length := by rw [← take_succ_any, List.take_of_length_le (by omega)]
  have e2 : BB ^ D.length * (d + q + b) = BB ^ D.length * (lm P D.length + BB * b') := by rw [e]
  rw [val_append, h.len, Nat.pow_succ, e1]
  simp only [val, Nat.mul_zero, Nat.add_zero]
  rw [Nat.mul_add, Nat.mul_add, Nat.mul_add, ← Nat.mul_assoc] at e2
  rw [Nat.mul_add] at hs
  omega

set_option maxRecDepth 100000 in
set_option maxHeartbeats 1000000 in
theorem takeAway_any (vb : Value) (D : List Nat) (base g N cap c' c : Nat) (R1 P R2 : List Nat) (w : World) (h : Nums w vb D) (hap : Apart vb D g) (hc : c < 4294967296) (hOP : Ok P)
    (hseg : Seg w base g N cap (R1 ++ (P ++ R2))) (hP : P.length = D.length + 1) :
    Calls Try.prog 113 #[.slice (some ⟨g, R1.length, none⟩) (D.length + 1) c', vb, .int .u32 c] w fun e w' =>
      ∃ (P' : List Nat) (b : Nat), b ≤ 1 ∧ e = .returned (.bool (decide (b = 0))) ∧ P'.length = D.length + 1 ∧ Ok P' ∧ val P' + c * val D = val P + BB ^ (D.length + 1) * b ∧ Seg w' base g N cap (R1 ++ (P' ++ R2)) ∧ w.grownBy w' (some g) := by
  have HOK := hide h.ok
  have HCB : Hid (c < BB) := hc
  have HL : Hid (R1.length + (D.length + 1 + R2.length) = N) := by have := hseg.2; rw [List.length_append, List.length_append, hP] at this; exact this
  have hl : R1.length + D.length + 1 ≤ N := by have := HL.out; omega
  obtain ⟨ho, a, cap1, rfl, hl1, hm1, hc1⟩ := h
  have HC := hide hc1
  have HAP := hide hap
  have HP := hide hP
  have HOP := hide hOP
  clear hc1 hap hP
  unfold maxLen at hm1
  go_enter Try.func113, Try.ntmps113
  go_wp2
  go_loopw [7, 8, 15] (fun qv bv iv wr => ∃ (k q b : Nat) (A : List Nat), k ≤ D.length ∧ iv = .int .i64 k ∧ qv = .int .u64 q ∧ bv = .int .u64 b ∧ TakeAt P D c k q b A ∧ Seg wr base g N cap (R1 ++ ((A ++ P.drop k) ++ R2)) ∧ w.grownBy wr (some g)) (fun _ _ iv _ => D.length - (intOf iv).toNat)
  case atStart => exact ⟨0, 0, 0, [], Nat.zero_le _, rfl, rfl, rfl, TakeAt.zero _ _ _, by simpa using hseg, World.grownBy.refl _ _⟩
  case round =>
    clear hseg
    obtain ⟨k, q, b, A, hk, rfl, rfl, rfl, hat, hsg, hgb⟩ := hrel
    have hq := hat.q1
    have hbb := hat.b1
    unfold BB at hq
    by_cases hlt : k < D.length
    · obtain ⟨bb, off, rfl, hx⟩ := HC.out (ne_nil hlt)
      have hbg : bb ≠ g := HAP.out (ne_nil hlt) _ _ _ rfl
      have hx' : wr.cell? ⟨bb, off + k, none⟩ = some (.int .u32 (lm D k : Nat)) := hgb.cell (hx k hlt) (by simpa using hbg)
      have hxb := HOK.out.at k
      obtain ⟨hm0, hmm⟩ := mul_boundI c (lm D k) HCB.out hxb
      have hpb := HOP.out.at k
      unfold BB at hxb hpb
      have hf := hsg.free (R1.length + k)
      have hcl := hsg.cell (R1.length + k) (by omega)
      rw [mid_lm R1 A P R2 k hat.len (by rw [HP.out]; omega)] at hcl
      have HW := hide (take_words (lm P k) ((q + c * lm D k) % BB) b hpb (Nat.mod_lt _ BB_pos) hbb)
      have HAT := hide hat
      have HSG := hide hsg
      have HGB := hide hgb
      clear hat hsg hgb hx
      go_wp2
      obtain ⟨d, b', hd, hb', e, e1, e2⟩ := HW.out
      have em : (((q + c * lm D k) % BB : Nat) : Int) = ((q : Int) + (c : Int) * (lm D k : Int)) % 4294967296 := by rw [← Int.natCast_mul]; unfold BB; omega
      rw [em] at e1 e2
      refine ⟨take_next HAT.out (HOK.out.at k) HCB.out hlt HP.out HSG.out HGB.out (by rw [Int.natCast_add, Int.natCast_mul]) hd hb' e e1 e2, ?_⟩
      simp [intOf]; omega
    · have hkL : k = D.length := by omega
      subst hkL
      have hpb := HOP.out.at D.length
      unfold BB at hpb
      have hf := hsg.free (R1.length + D.length)
      have hcl := hsg.cell (R1.length + D.length) (by omega)
      rw [mid_lm R1 A P R2 D.length hat.len (by rw [HP.out]; omega)] at hcl
      have HW := hide (take_words (lm P D.length) q b hpb hq hbb)
      have HAT := hide hat
      have HSG := hide hsg
      have HGB := hide hgb
      clear hat hsg hgb
      go_wp2
      go_ret
      obtain ⟨d, b', hd, hb', e, e1, e2⟩ := HW.out
      refine ⟨A ++ [d], b', hb', ?_, by rw [List.length_append, HAT.out.len]; rfl, HAT.out.ok.append (Ok.cons hd Ok.nil), take_last HAT.out HP.out e, ?_, ?_⟩
      · refine congrArg Ending.returned (congrArg Value.bool ?_)
        rw [e1, Bool.eq_iff_iff]; simp
      · have := HSG.out.set (R1.length + D.length) d (mid_set R1 A P R2 D.length d HAT.out.len (by rw [HP.out]; omega))
        rw [List.drop_eq_nil_of_le (by rw [HP.out]; exact Nat.le_refl _), List.append_nil] at this
        rw [e2]; exact this
      · exact gb_set HGB.out _ _

/-- a sum that may wrap round -/
structure GiveAt (P D : List Nat) (k q : Nat) (A : List Nat) : Prop where
  len : A.length = k
  ok : Ok A
  q1 : q ≤ 1
  sum : val A + BB ^ k * q = val (P.take k) + val (D.take k)

theorem GiveAt.zero (P D : List Nat) : GiveAt P D 0 0 [] := ⟨rfl, Ok.nil, by omega, by simp [val]⟩
theorem GiveAt.step {P D : List Nat} {k q : Nat} {A : List Nat} (h : GiveAt P D k q A) (hP : lm P k < BB) (hD : lm D k < BB) : GiveAt P D (k + 1) ((q + lm P k + lm D k) / BB) (A ++ [(q + lm P k + lm D k) % BB]) := by
  have h3 := h.q1
  refine ⟨by simp [h.len], h.ok.append (Ok.cons (Nat.mod_lt _ BB_pos) Ok.nil), ?_, ?_⟩
  · have : (q + lm P k + lm D k) / BB < 2 := by rw [Nat.div_lt_iff_lt_mul BB_pos]; omega
    omega
  · rw [take_succ_any, take_succ_any, val_append, h.len, Nat.pow_succ]
    simp only [val, Nat.mul_zero, Nat.add_zero]
    exact add_math h.sum

theorem give_next {w wr : World} {base g N cap k q : Nat} {P D A R1 R2 : List Nat} {t : Int} (hat : GiveAt P D k q A) (hPk : lm P k < BB) (hD : lm D k < BB) (hlt : k < D.length) (hP : P.length = D.length + 1)
    (hsg : Seg wr base g N cap (R1 ++ ((A ++ P.drop k) ++ R2))) (hgb : w.grownBy wr (some g)) (ht : t = ((q + lm P k + lm D k : Nat) : Int)) :
    ∃ (k' q' : Nat) (A' : List Nat), k' ≤ D.length ∧ Value.int .i64 (↑k + 1) = .int .i64 k' ∧ Value.int .u64 (t / 4294967296) = .int .u64 q' ∧ GiveAt P D k' q' A' ∧
      Seg (wr.setCell ⟨g, R1.length + k, none⟩ (.int .u32 (t % 4294967296))) base g N cap (R1 ++ ((A' ++ P.drop k') ++ R2)) ∧ w.grownBy (wr.setCell ⟨g, R1.length + k, none⟩ (.int .u32 (t % 4294967296))) (some g) := by
  have e1 : t / 4294967296 = (((q + lm P k + lm D k) / BB : Nat) : Int) := by subst ht; unfold BB; omega
  have e2 : t % 4294967296 = (((q + lm P k + lm D k) % BB : Nat) : Int) := by subst ht; unfold BB; omega
  refine ⟨k + 1, _, _, hlt, by go_num, by rw [e1], hat.step hPk hD, ?_, ?_⟩
  · rw [e2]; exact hsg.set _ _ (mid_set R1 A P R2 k _ hat.len (by omega))
  · exact gb_set hgb _ _

theorem give_last {P D A : List Nat} {q d o : Nat} (h : GiveAt P D D.length q A) (hP : P.length = D.length + 1) (e : d + BB * o = lm P D.length + q) :
    val (A ++ [d]) + BB ^ (D.length + 1) * o = val P + val D := by
  have hs := h.sum
  rw [List.take_length] at hs
  have e1 : val P = val (P.take D.length) + BB ^ D.length * lm P D.length := by rw [← take_succ_any, List.take_of_length_le (by omega)]
  have e2 : BB ^ D.length * (d + BB * o) = BB ^ D.length * (lm P D.length + q) := by rw [e]
  rw [val_append, h.len, Nat.pow_succ, e1]
  simp only [val, Nat.mul_zero, Nat.add_zero]
  rw [Nat.mul_add, Nat.mul_add, ← Nat.mul_assoc] at e2
  omega

set_option maxRecDepth 100000 in
set_option maxHeartbeats 1000000 in
theorem giveBack_any (vb : Value) (D : List Nat) (base g N cap c' : Nat) (R1 P R2 : List Nat) (w : World) (h : Nums w vb D) (hap : Apart vb D g) (hOP : Ok P)
    (hseg : Seg w base g N cap (R1 ++ (P ++ R2))) (hP : P.length = D.length + 1) :
    Calls Try.prog 114 #[.slice (some ⟨g, R1.length, none⟩) (D.length + 1) c', vb] w fun e w' => e = .returned (.tuple #[]) ∧
      ∃ (P' : List Nat) (o : Nat), P'.length = D.length + 1 ∧ Ok P' ∧ val P' + BB ^ (D.length + 1) * o = val P + val D ∧ Seg w' base g N cap (R1 ++ (P' ++ R2)) ∧ w.grownBy w' (some g) := by
  have HOK := hide h.ok
  have HL : Hid (R1.length + (D.length + 1 + R2.length) = N) := by have := hseg.2; rw [List.length_append, List.length_append, hP] at this; exact this
  have hl : R1.length + D.length + 1 ≤ N := by have := HL.out; omega
  obtain ⟨ho, a, cap1, rfl, hl1, hm1, hc1⟩ := h
  have HC := hide hc1
  have HAP := hide hap
  have HP := hide hP
  have HOP := hide hOP
  clear hc1 hap hP
  unfold maxLen at hm1
  go_enter Try.func114, Try.ntmps114
  go_wp2
  go_loopw [4, 9] (fun qv iv wr => ∃ (k q : Nat) (A : List Nat), k ≤ D.length ∧ iv = .int .i64 k ∧ qv = .int .u64 q ∧ GiveAt P D k q A ∧ Seg wr base g N cap (R1 ++ ((A ++ P.drop k) ++ R2)) ∧ w.grownBy wr (some g)) (fun _ iv _ => D.length - (intOf iv).toNat)
  case atStart => exact ⟨0, 0, [], Nat.zero_le _, rfl, rfl, GiveAt.zero _ _, by simpa using hseg, World.grownBy.refl _ _⟩
  case round =>
    clear hseg
    obtain ⟨k, q, A, hk, rfl, rfl, hat, hsg, hgb⟩ := hrel
    have hq := hat.q1
    by_cases hlt : k < D.length
    · obtain ⟨bb, off, rfl, hx⟩ := HC.out (ne_nil hlt)
      have hbg : bb ≠ g := HAP.out (ne_nil hlt) _ _ _ rfl
      have hx' : wr.cell? ⟨bb, off + k, none⟩ = some (.int .u32 (lm D k : Nat)) := hgb.cell (hx k hlt) (by simpa using hbg)
      have hxb := HOK.out.at k
      have hpb := HOP.out.at k
      unfold BB at hxb hpb
      have hf := hsg.free (R1.length + k)
      have hcl := hsg.cell (R1.length + k) (by omega)
      rw [mid_lm R1 A P R2 k hat.len (by rw [HP.out]; omega)] at hcl
      have HAT := hide hat
      have HSG := hide hsg
      have HGB := hide hgb
      clear hat hsg hgb hx
      go_wp2
      refine ⟨give_next HAT.out hpb hxb hlt HP.out HSG.out HGB.out (by omega), ?_⟩
      simp [intOf]; omega
    · have hkL : k = D.length := by omega
      subst hkL
      have hpb := HOP.out.at D.length
      unfold BB at hpb
      have hf := hsg.free (R1.length + D.length)
      have hcl := hsg.cell (R1.length + D.length) (by omega)
      rw [mid_lm R1 A P R2 D.length hat.len (by rw [HP.out]; omega)] at hcl
      have HAT := hide hat
      have HSG := hide hsg
      have HGB := hide hgb
      clear hat hsg hgb
      have HEQ : Hid (((lm P D.length : Int) + (q : Int)) % 4294967296 = (((lm P D.length + q) % BB : Nat) : Int)) := by show _ = _; unfold BB; omega
      go_wp2
      go_end0
      refine ⟨rfl, A ++ [(lm P D.length + q) % BB], (lm P D.length + q) / BB, by rw [List.length_append, HAT.out.len]; rfl, HAT.out.ok.append (Ok.cons (Nat.mod_lt _ BB_pos) Ok.nil), give_last HAT.out HP.out (Nat.mod_add_div _ _), ?_, ?_⟩
      · have := HSG.out.set (R1.length + D.length) ((lm P D.length + q) % BB) (mid_set R1 A P R2 D.length _ HAT.out.len (by rw [HP.out]; omega))
        rw [List.drop_eq_nil_of_le (by rw [HP.out]; exact Nat.le_refl _), List.append_nil] at this
        rw [HEQ.out]; exact this
      · exact gb_set HGB.out _ _
end Go.Proofs.Ytgkibmigbjjnnaa

namespace Go.Proofs.Ytgkibmigbjjnnaa
open Go.RowKit

/-- a guess by three limbs of two is the quotient or one more: P' top three limbs, D2 top two, K what they stand at -/
theorem guess_good {P P' pl D D2 dl K g q : Nat} (hP : P = P' * K + pl) (hD : D = D2 * K + dl) (hdl : dl < K) (hg : g * D2 ≤ P') (hgB : g < BB) (hq : q = P / D) (hqg : q ≤ g) (hbig : BB ≤ D2) :
    q ≤ g ∧ g ≤ q + 1 := by
  refine ⟨hqg, ?_⟩
  have hK : 0 < K := by omega
  have hDp : 0 < D := by
    have : 0 < D2 * K := Nat.mul_pos (by have := BB_pos; omega) hK
    omega
  rcases Nat.eq_zero_or_pos g with h0 | h0
  · omega
  · obtain ⟨g', rfl⟩ : ∃ g', g = g' + 1 := ⟨g - 1, by omega⟩
    have h1 : g' * D ≤ P := by
      have e1 : (g' + 1) * D2 * K ≤ P' * K := Nat.mul_le_mul_right _ hg
      have e2 : g' * D = g' * D2 * K + g' * dl := by rw [hD, Nat.mul_add, Nat.mul_assoc]
      have e3 : (g' + 1) * D2 * K = g' * D2 * K + D2 * K := by rw [Nat.add_mul, Nat.one_mul, Nat.add_mul]
      have e4 : g' * dl ≤ BB * K := Nat.mul_le_mul (by omega) (by omega)
      have e5 : BB * K ≤ D2 * K := Nat.mul_le_mul_right _ hbig
      omega
    have h2 : g' ≤ P / D := (Nat.le_div_iff_mul_le hDp).2 h1
    omega

/-- and no quotient's limb is passed by -/
theorem guess_floor {P P' pl D D2 dl K q : Nat} (hP : P = P' * K + pl) (hpl : pl < K) (hD : D = D2 * K + dl) (hq : q * D ≤ P) : q * D2 ≤ P' := by
  have hK : 0 < K := by omega
  have h1 : q * D2 * K ≤ q * D := by rw [hD, Nat.mul_add, Nat.mul_assoc]; omega
  have h2 : q * D2 * K < (P' + 1) * K := by rw [Nat.add_mul, Nat.one_mul]; omega
  have := Nat.lt_of_mul_lt_mul_right h2
  omega

/-- the guess in the making -/
structure GsAt (u v x t s q limb left : Nat) : Prop where
  eq : limb * t + left = u * BB + v
  q1 : q ≤ limb
  top : limb ≤ BB + 1

theorem GsAt.start {u v x t s q : Nat} (hv : v < BB) (ht : 2147483648 ≤ t) (hu : u ≤ t) (hq : q * (t * BB + s) ≤ (u * BB + v) * BB + x) (hx : x < BB) :
    GsAt u v x t s q ((u * BB + v) / t) ((u * BB + v) % t) := by
  have htp : 0 < t := by omega
  refine ⟨by rw [Nat.mul_comm]; exact Nat.div_add_mod _ _, ?_, ?_⟩
  · rw [Nat.le_div_iff_mul_le htp]
    have h1 : q * t * BB ≤ q * (t * BB + s) := by rw [Nat.mul_add, Nat.mul_assoc]; omega
    have h2 : q * t * BB < (u * BB + v + 1) * BB := by rw [Nat.add_mul, Nat.one_mul]; omega
    have := Nat.lt_of_mul_lt_mul_right h2
    omega
  · have : (u * BB + v) / t < BB + 2 := by
      rw [Nat.div_lt_iff_lt_mul htp, Nat.add_mul]
      have : u * BB ≤ BB * t := by rw [Nat.mul_comm]; exact Nat.mul_le_mul_left _ hu
      unfold BB at *; omega
    omega

theorem GsAt.top1 {u v x t s q left : Nat} (h : GsAt u v x t s q (BB + 1) left) (hv : v < BB) (hu : u ≤ t) : left + t < BB := by
  have e := h.eq
  have : u * BB ≤ t * BB := Nat.mul_le_mul_right _ hu
  rw [Nat.add_mul, Nat.one_mul, Nat.mul_comm BB t] at e
  omega

/-- it goes on only where the limb is too great -/
theorem GsAt.next {u v x t s q limb left : Nat} (h : GsAt u v x t s q limb left) (hq : q * (t * BB + s) ≤ (u * BB + v) * BB + x) (hqB : q < BB)
    (hgo : BB ≤ limb ∨ left * BB + x < limb * s) : 1 ≤ limb ∧ GsAt u v x t s q (limb - 1) (left + t) := by
  have hne : q < limb := by
    rcases hgo with hgo | hgo
    · omega
    · rcases Nat.lt_or_eq_of_le h.q1 with h' | h'
      · exact h'
      · exfalso
        subst h'
        have e := h.eq
        have e1 : q * (t * BB + s) = q * t * BB + q * s := by rw [Nat.mul_add, Nat.mul_assoc]
        have e2 : (u * BB + v) * BB = q * t * BB + left * BB := by rw [← e, Nat.add_mul]
        omega
  have hl1 : 1 ≤ limb := by omega
  have htop := h.top
  refine ⟨hl1, ⟨?_, by omega, by omega⟩⟩
  have e := h.eq
  obtain ⟨l', rfl⟩ : ∃ l', limb = l' + 1 := ⟨limb - 1, by omega⟩
  rw [Nat.add_mul, Nat.one_mul] at e
  rw [Nat.add_sub_cancel]; omega

theorem GsAt.fits {u v x t s q limb left : Nat} (h : GsAt u v x t s q limb left) (hn : limb * s ≤ left * BB + x) : limb * (t * BB + s) ≤ (u * BB + v) * BB + x := by
  have e1 : limb * (t * BB + s) = limb * t * BB + limb * s := by rw [Nat.mul_add, Nat.mul_assoc]
  have e2 : (u * BB + v) * BB = limb * t * BB + left * BB := by rw [← h.eq, Nat.add_mul]
  omega

theorem GsAt.fits_over {u v x t s q limb left : Nat} (h : GsAt u v x t s q limb left) (hs : s < BB) (hl : limb < BB) (hov : BB ≤ left) : limb * (t * BB + s) ≤ (u * BB + v) * BB + x := by
  refine h.fits ?_
  have h1 : limb * s ≤ BB * BB := Nat.mul_le_mul (by omega) (by omega)
  have h2 : BB * BB ≤ left * BB := Nat.mul_le_mul_right _ hov
  omega

theorem top2_eq (a b c K : Nat) : a + K * b + K * BB * c = (c * BB + b) * K + a := by grind
theorem top3_eq (u v x K p : Nat) : p + K * x + K * BB * v + K * BB * BB * u = ((u * BB + v) * BB + x) * K + p := by grind
theorem top2 (D : List Nat) (k : Nat) (h : D.length = k + 2) : val D = (lm D (k + 1) * BB + lm D k) * BB ^ k + val (D.take k) := by
  have e : val D = val (D.take (k + 1 + 1)) := by rw [List.take_of_length_le (by omega)]
  rw [e, take_succ_any, take_succ_any, Nat.pow_succ, top2_eq]
theorem top3 (P : List Nat) (k : Nat) (h : P.length = k + 3) : val P = ((lm P (k + 2) * BB + lm P (k + 1)) * BB + lm P k) * BB ^ k + val (P.take k) := by
  have e : val P = val (P.take (k + 1 + 1 + 1)) := by rw [List.take_of_length_le (by omega)]
  rw [e, take_succ_any, take_succ_any, take_succ_any, Nat.pow_succ BB (k + 1), Nat.pow_succ BB k, top3_eq]

theorem guess_u {P D : List Nat} {k : Nat} (hD : D.length = k + 2) (hP : P.length = k + 3) (oD : Ok D) (h : val P < val D * BB) : lm P (k + 2) ≤ lm D (k + 1) := by
  have e1 := top2 D k hD
  have e2 := top3 P k hP
  have d1 := val_lt (oD.take k)
  rw [List.length_take, Nat.min_eq_left (by omega)] at d1
  have d2 := oD.at k
  have hK : 0 < BB ^ k := Nat.pow_pos BB_pos
  have h1 : val D < (lm D (k + 1) + 1) * BB * BB ^ k := by
    rw [e1]
    have : (lm D (k + 1) * BB + lm D k + 1) * BB ^ k ≤ (lm D (k + 1) + 1) * BB * BB ^ k := Nat.mul_le_mul_right _ (by rw [Nat.add_mul, Nat.one_mul]; omega)
    rw [Nat.add_mul _ 1, Nat.one_mul] at this
    omega
  have h2 : lm P (k + 2) * BB * BB * BB ^ k ≤ val P := by
    rw [e2]
    have : lm P (k + 2) * BB * BB * BB ^ k ≤ ((lm P (k + 2) * BB + lm P (k + 1)) * BB + lm P k) * BB ^ k := Nat.mul_le_mul_right _ (by rw [Nat.add_mul]; omega)
    omega
  have h3 : val D * BB < (lm D (k + 1) + 1) * BB * BB ^ k * BB := Nat.mul_lt_mul_of_pos_right h1 BB_pos
  have h4 : lm P (k + 2) * (BB * BB * BB ^ k) < (lm D (k + 1) + 1) * (BB * BB * BB ^ k) := by
    have e5 : lm P (k + 2) * (BB * BB * BB ^ k) = lm P (k + 2) * BB * BB * BB ^ k := by rw [Nat.mul_assoc, Nat.mul_assoc, Nat.mul_assoc]
    have e6 : (lm D (k + 1) + 1) * (BB * BB * BB ^ k) = (lm D (k + 1) + 1) * BB * BB ^ k * BB := by
      rw [Nat.mul_assoc, Nat.mul_assoc, Nat.mul_assoc, Nat.mul_comm (BB ^ k) BB]
    omega
  have := Nat.lt_of_mul_lt_mul_right h4
  omega

theorem or_word2 (r x : Nat) (hr : r < 4294967296) (hx : x < 4294967296) : bits .or .u64 (IntKind.u64.wrap ((r : Int) * 4294967296)) (x : Int) = ((r * BB + x : Nat) : Int) := by
  have e : IntKind.u64.wrap ((r : Int) * 4294967296) = (r : Int) * 4294967296 := by rw [IntKind.wrap_u64]; omega
  rw [e, or_word r x hr hx]

theorem guess_fin {p d t s u v x pl dl K g : Nat} (hP : p = ((u * BB + v) * BB + x) * K + pl) (hD : d = (t * BB + s) * K + dl) (hdl : dl < K) (ht : 2147483648 ≤ t) (hg : g * (t * BB + s) ≤ (u * BB + v) * BB + x) (hgB : g < BB) (hq : p / d ≤ g) :
    p / d ≤ g ∧ g ≤ p / d + 1 :=
  guess_good hP hD hdl hg hgB rfl hq (by unfold BB; omega)

theorem guess_low {p d t s u v x pl dl K : Nat} (hP : p = ((u * BB + v) * BB + x) * K + pl) (hpl : pl < K) (hD : d = (t * BB + s) * K + dl) : (p / d) * (t * BB + s) ≤ (u * BB + v) * BB + x :=
  guess_floor hP hpl hD (Nat.div_mul_le_self p d)

theorem tdiv_word (n t : Nat) (hn : n < 18446744073709551616) : IntKind.u64.wrap ((n : Int).tdiv (t : Int)) = ((n / t : Nat) : Int) := by
  have e : (n : Int).tdiv (t : Int) = ((n / t : Nat) : Int) := by rw [Int.tdiv_eq_ediv_of_nonneg (Int.natCast_nonneg n), Int.natCast_ediv]
  have := Nat.div_le_self n t
  rw [e, IntKind.wrap_u64]; generalize n / t = m at this ⊢; omega

set_option maxRecDepth 100000 in
set_option maxHeartbeats 2000000 in
theorem guess_any (gb ob nb c1 g j np c2 k : Nat) (P D : List Nat) (w : World) (hD : D.length = k + 2) (hP : P.length = k + 3) (oD : Ok D) (oP : Ok P) (hnb : nb = k + 2) (hnp : np = k + 3)
    (hcD : ∀ i, i < D.length → w.cell? ⟨gb, ob + i, none⟩ = some (.int .u32 (lm D i : Nat))) (hcP : ∀ i, i < P.length → w.cell? ⟨g, j + i, none⟩ = some (.int .u32 (lm P i : Nat)))
    (htop : 2147483648 ≤ lm D (k + 1)) (hlt : val P < val D * BB) (hk : k ≤ 4000000000) :
    Calls Try.prog 112 #[.slice (some ⟨g, j, none⟩) np c2, .slice (some ⟨gb, ob, none⟩) nb c1] w fun e w' =>
      ∃ q : Nat, e = .returned (.int .u32 (q : Nat)) ∧ q < BB ∧ val P / val D ≤ q ∧ q ≤ val P / val D + 1 ∧ Below w.heap.size w w' := by
  subst hnb hnp
  have d0 := hcD k (by omega)
  have d1 := hcD (k + 1) (by omega)
  have p0 := hcP k (by omega)
  have p1 := hcP (k + 1) (by omega)
  have p2 := hcP (k + 2) (by omega)
  have hu := guess_u hD hP oD hlt
  have HP := hide (top3 P k hP)
  have HD := hide (top2 D k hD)
  have bs := oD.at k
  have bt := oD.at (k + 1)
  have bx := oP.at k
  have bv := oP.at (k + 1)
  have bu := oP.at (k + 2)
  have HDL := hide (val_lt (oD.take k))
  have HPL := hide (val_lt (oP.take k))
  have HLT := hide hlt
  clear hcD hcP hD hP oD oP hlt
  generalize lm D k = s at *
  generalize lm D (k + 1) = t at *
  generalize lm P k = x at *
  generalize lm P (k + 1) = v at *
  generalize lm P (k + 2) = u at *
  unfold BB at bs bt bx bv bu
  have hor := or_word2 u v bu bv
  have hor' := or_word u v bu bv
  go_enter Try.func112, Try.ntmps112
  go_wp2
  go_step3
  go_wp2
  go_quiet (fail)
  go_wp2
  go_quiet (fail)
  go_wp2
  go_quiet (fail)
  go_wp2
  try (go_step3; go_wp2)
  have hbn : ((u : Int) * (BB : Nat) + (v : Int)) = ((u * BB + v : Nat) : Int) := by rw [Int.natCast_add, Int.natCast_mul]
  have hb64 : u * BB + v < 18446744073709551616 := by unfold BB; omega
  have hw1 := tdiv_word (u * BB + v) t hb64
  have hw2 : (((u * BB + v : Nat) : Int) % (t : Int)) = (((u * BB + v) % t : Nat) : Int) := by rw [Int.natCast_emod]
  rw [hbn, hw1, hw2]
  have HKD : Hid (val (D.take k) < BB ^ k) := by
    have h1 := HDL.out
    exact Nat.lt_of_lt_of_le h1 (Nat.pow_le_pow_right BB_pos (by rw [List.length_take]; omega))
  have HKP : Hid (val (P.take k) < BB ^ k) := by
    have h1 := HPL.out
    exact Nat.lt_of_lt_of_le h1 (Nat.pow_le_pow_right BB_pos (by rw [List.length_take]; omega))
  have HQB : Hid (val P / val D < BB) := Nat.div_lt_of_lt_mul HLT.out
  have HLOW := hide (guess_low HP.out HKP.out HD.out)
  have HST := hide (GsAt.start (q := val P / val D) (s := s) bv htop hu HLOW.out bx)
  have hmt : (u * BB + v) % t < BB := Nat.lt_trans (Nat.mod_lt _ (by omega)) bt
  have HMT := hide hmt
  clear hbn hb64 hw1 hw2 hor hor' hmt d0 d1 p1 p2
  obtain ⟨l0, hl0⟩ : ∃ l0, l0 = (u * BB + v) / t := ⟨_, rfl⟩
  obtain ⟨f0, hf0⟩ : ∃ f0, f0 = (u * BB + v) % t := ⟨_, rfl⟩
  obtain ⟨n0, hn0⟩ : ∃ n0, n0 = u * BB + v := ⟨_, rfl⟩
  rw [← hl0, ← hf0] at HST
  rw [← hf0] at HMT
  rw [← hl0, ← hf0, ← hn0, show k + 2 - 1 = k + 1 from by omega]
  clear hl0 hf0 hn0
  go_loopw [9, 10] (fun lv fv wr => ∃ limb left : Nat, lv = .int .u64 limb ∧ fv = .int .u64 left ∧ GsAt u v x t s (val P / val D) limb left ∧ left < BB ∧ Below w.heap.size w wr) (fun lv _ _ => (intOf lv).toNat)
  case atStart => exact ⟨_, _, rfl, rfl, HST.out, HMT.out, below_drewN (below_drewN (below_drewN (Below.refl _ _) _) _) _⟩
  case round =>
    obtain ⟨limb, left, rfl, rfl, hat, hlf, hbel⟩ := hrel
    have htp := hat.top
    have HAT := hide hat
    have p0' := (hbel.cell (p := ⟨g, j + k, none⟩) (World.block_lt_of_cell? w _ p0)).trans p0
    have HBEL := hide hbel
    unfold BB at htp hlf
    clear hat hbel
    have hor2 := or_word2 left x hlf bx
    have hor3 := or_word left x hlf bx
    by_cases hbig : 4294967296 ≤ limb
    · obtain ⟨hl1, hnx⟩ := HAT.out.next HLOW.out HQB.out (.inl hbig)
      have HNX := hide hnx
      clear hnx
      by_cases hov : 4294967296 ≤ left + t
      · have hlb : limb - 1 < 4294967296 := by
          by_cases e : limb = BB + 1
          · exfalso
            have h1 := HAT.out
            rw [e] at h1
            have := h1.top1 bv hu
            unfold BB at this; omega
          · unfold BB at e; omega
        have hlI : ((limb : Int) - 1) = ((limb - 1 : Nat) : Int) := by omega
        have HF := hide (guess_fin HP.out HD.out HKD.out htop (HNX.out.fits_over bs hlb hov) hlb HNX.out.q1)
        go_wp2
        go_ret
        exact ⟨limb - 1, rfl, hlb, HF.out.1, HF.out.2, HBEL.out⟩
      · go_wp2
        go_roundw
        case rel => exact ⟨limb - 1, left + t, by congr 1; omega, by congr 1, HNX.out, by unfold BB; omega, HBEL.out⟩
        case measure => simp [intOf]; omega
    · have hlb : limb < 4294967296 := by omega
      obtain ⟨hm0, hmm⟩ := mul_boundI limb s hlb bs
      by_cases hmul : left * BB + x < limb * s
      · have hmulI : (left : Int) * (BB : Nat) + (x : Int) < (limb : Int) * (s : Int) := by rw [← Int.natCast_mul, ← Int.natCast_mul]; omega
        obtain ⟨hl1, hnx⟩ := HAT.out.next HLOW.out HQB.out (.inr hmul)
        have HNX := hide hnx
        clear hnx hmul
        by_cases hov : 4294967296 ≤ left + t
        · have hlb1 : limb - 1 < 4294967296 := by omega
          have hlI : ((limb : Int) - 1) = ((limb - 1 : Nat) : Int) := by omega
          have HF := hide (guess_fin HP.out HD.out HKD.out htop (HNX.out.fits_over bs hlb1 hov) hlb1 HNX.out.q1)
          go_wp2
          try rw [Exit.noGoto_ret]
          go_ret
          exact ⟨limb - 1, rfl, hlb1, HF.out.1, HF.out.2, HBEL.out⟩
        · go_wp2
          go_roundw
          case rel => exact ⟨limb - 1, left + t, by congr 1; omega, by congr 1, HNX.out, by unfold BB; omega, HBEL.out⟩
          case measure => simp [intOf]; omega
      · have hmulI : ¬ (left : Int) * (BB : Nat) + (x : Int) < (limb : Int) * (s : Int) := by rw [← Int.natCast_mul, ← Int.natCast_mul]; omega
        have HF := hide (guess_fin HP.out HD.out HKD.out htop (HAT.out.fits (by omega)) hlb HAT.out.q1)
        clear hmul
        go_wp2
        try rw [Exit.noGoto_ret]
        go_ret
        exact ⟨limb, rfl, hlb, HF.out.1, HF.out.2, HBEL.out⟩
end Go.Proofs.Ytgkibmigbjjnnaa

namespace Go.Proofs.Ytgkibmigbjjnnaa
open Go.RowKit

/-- a limb of a quotient by 2^s hangs on two limbs alone -/
theorem shr_two (a b c s : Nat) (hs : s ≤ 32) (ha : a < BB) : (a + BB * (b + BB * c)) / 2 ^ s = (b * BB + a) / 2 ^ s % BB + BB * ((b + BB * c) / 2 ^ s) := by
  obtain ⟨r, hr⟩ : ∃ r, BB = 2 ^ s * r := ⟨2 ^ (32 - s), by rw [← Nat.pow_add, show s + (32 - s) = 32 from by omega]; rfl⟩
  have hp : 0 < 2 ^ s := Nat.two_pow_pos s
  generalize 2 ^ s = p at hr hp ⊢
  have hrp : 0 < r := by
    rcases Nat.eq_zero_or_pos r with h | h
    · rw [h, Nat.mul_zero] at hr; exact absurd hr (by decide)
    · exact h
  generalize hn : b + BB * c = n
  -- both sides by the division of n
  have e1 : a + BB * n = a + p * (r * n) := by rw [hr, Nat.mul_assoc]
  rw [e1, Nat.add_mul_div_left _ _ hp]
  have e2 : b * BB + a = a + p * (r * b) := by rw [hr, Nat.add_comm, Nat.mul_comm b, Nat.mul_assoc]
  rw [e2, Nat.add_mul_div_left _ _ hp]
  -- r n = r b + r BB c ; BB (n / p) = r p (n / p)
  have hdm := Nat.div_add_mod n p
  have hbp : n % p = b % p := by rw [← hn, hr, Nat.mul_assoc, Nat.add_mul_mod_self_left]
  have hbd := Nat.div_add_mod b p
  have ha2 : a / p < r := by rw [Nat.div_lt_iff_lt_mul hp, Nat.mul_comm, ← hr]; exact ha
  have hmod : (a / p + r * b) % BB = a / p + r * (b % p) := by
    have e3 : a / p + r * b = (a / p + r * (b % p)) + BB * (b / p) := by
      rw [hr, Nat.mul_comm p r, Nat.mul_assoc, Nat.add_assoc, ← Nat.mul_add, Nat.add_comm (b % p), hbd]
    rw [e3, Nat.add_mul_mod_self_left]
    refine Nat.mod_eq_of_lt ?_
    have h1 : b % p < p := Nat.mod_lt _ hp
    have h2 : r * (b % p + 1) ≤ r * p := Nat.mul_le_mul_left _ h1
    rw [Nat.mul_add, Nat.mul_one, Nat.mul_comm r p, ← hr] at h2
    omega
  rw [hmod, hr, Nat.mul_comm p r, Nat.mul_assoc, Nat.add_assoc, ← Nat.mul_add, Nat.add_comm (b % p), ← hbp, hdm]

theorem drop_over (xs : List Nat) (k : Nat) (h : xs.length ≤ k) : val (xs.drop k) = 0 := by rw [List.drop_eq_nil_of_le h]; rfl

theorem drop_val_any (xs : List Nat) (k : Nat) : val (xs.drop k) = lm xs k + BB * val (xs.drop (k + 1)) := by
  by_cases h : k < xs.length
  · exact drop_val xs k h
  · rw [drop_over xs k (by omega), drop_over xs (k + 1) (by omega), lm_over xs k (by omega)]; rfl

/-- shifted down by s bits, k limbs to go -/
structure ShrAt (xs : List Nat) (s k b : Nat) (A : List Nat) : Prop where
  len : A.length = xs.length - k
  ok : Ok A
  both : b % BB = lm xs k
  sum : val A = val (xs.drop k) / 2 ^ s

theorem ShrAt.start (xs : List Nat) (s : Nat) : ShrAt xs s xs.length 0 [] := ⟨by simp, Ok.nil, by rw [lm_over _ _ (Nat.le_refl _)]; rfl, by rw [drop_over _ _ (Nat.le_refl _)]; simp [val]⟩

theorem ShrAt.step {xs : List Nat} {s k b : Nat} {A : List Nat} (h : ShrAt xs s (k + 1) b A) (hx : Ok xs) (hs : s ≤ 32) (hk : k < xs.length) :
    ShrAt xs s k (b % BB * BB + lm xs k) ((b % BB * BB + lm xs k) / 2 ^ s % BB :: A) := by
  refine ⟨by rw [List.length_cons, h.len]; omega, Ok.cons (Nat.mod_lt _ BB_pos) h.ok, ?_, ?_⟩
  · rw [Nat.add_comm, Nat.mul_comm, Nat.add_mul_mod_self_left]; exact Nat.mod_eq_of_lt (hx.at k)
  · simp only [val]
    rw [h.both, h.sum, drop_val_any xs k, drop_val_any xs (k + 1), shr_two _ _ _ s hs (hx.at k)]

theorem wrap_up (b : Nat) : IntKind.u64.wrap ((b : Int) * 4294967296) = ((b % BB * BB : Nat) : Int) := by
  rw [IntKind.wrap_u64]; unfold BB; omega
theorem or_up (b x : Nat) (hx : x < 4294967296) : bits .or .u64 (IntKind.u64.wrap ((b : Int) * 4294967296)) (x : Int) = ((b % BB * BB + x : Nat) : Int) := by
  have h : b % BB < 4294967296 := Nat.mod_lt _ BB_pos
  have e : IntKind.u64.wrap ((b : Int) * 4294967296) = ((b % BB : Nat) : Int) * 4294967296 := by rw [wrap_up]; unfold BB; omega
  rw [e, or_word (b % BB) x h hx]

theorem lim_drop (xs : List Nat) (k : Nat) : val xs / BB ^ k = val (xs.drop k) ∨ ¬ Ok xs := by
  by_cases h : Ok xs
  · left
    by_cases hk : k ≤ xs.length
    · have e : val xs = val (xs.take k) + BB ^ k * val (xs.drop k) := by
        have := val_append (xs.take k) (xs.drop k)
        rw [List.take_append_drop, List.length_take, Nat.min_eq_left hk] at this; exact this
      have hl := val_lt (h.take k)
      rw [List.length_take, Nat.min_eq_left hk] at hl
      rw [e, Nat.add_mul_div_left _ _ (Nat.pow_pos BB_pos), Nat.div_eq_of_lt hl, Nat.zero_add]
    · rw [drop_over xs k (by omega), Nat.div_eq_of_lt (Nat.lt_of_lt_of_le (val_lt h) (Nat.pow_le_pow_right BB_pos (by omega)))]
  · exact .inr h

theorem shr_val (xs : List Nat) (n : Nat) (h : Ok xs) : val xs / 2 ^ n = val (xs.drop (n / 32)) / 2 ^ (n % 32) := by
  have e : (2 : Nat) ^ n = BB ^ (n / 32) * 2 ^ (n % 32) := by
    rw [show BB = 2 ^ 32 from rfl, ← Nat.pow_mul, ← Nat.pow_add, Nat.div_add_mod]
  rcases lim_drop xs (n / 32) with h1 | h1
  · rw [e, ← Nat.div_div_eq_div_mul, h1]
  · exact absurd h h1

theorem rep_set (k x : Nat) (A : List Nat) : (List.replicate (k + 1) 0 ++ A).set k x = List.replicate k 0 ++ (x :: A) := by
  induction k with
  | zero => rfl
  | succ k ih => rw [List.replicate_succ, List.cons_append, List.set_cons_succ, ih, List.replicate_succ, List.cons_append]

theorem shr_next {w wr : World} {g s k b : Nat} {M A : List Nat} {t r : Int} (hat : ShrAt M s (k + 1) b A) (hx : Ok M) (hs : s ≤ 32) (hk : k < M.length) (hg : w.heap.size ≤ g)
    (hrow : Row wr w.heap.size g M.length (List.replicate (k + 1) 0 ++ A)) (hbel : Below w.heap.size w wr) (ht : t = ((b % BB * BB + lm M k : Nat) : Int)) (hr : r = t / 2 ^ s % 4294967296) :
    ∃ (k' b' : Nat) (A' : List Nat), k' ≤ M.length ∧ Value.int .i64 (↑k - 1) = .int .i64 ((k' : Int) - 1) ∧ Value.int .u64 t = .int .u64 b' ∧ ShrAt M s k' b' A' ∧
      Row (wr.setCell ⟨g, k, none⟩ (.int .u32 r)) w.heap.size g M.length (List.replicate k' 0 ++ A') ∧ Below w.heap.size w (wr.setCell ⟨g, k, none⟩ (.int .u32 r)) := by
  have e2 : r = (((b % BB * BB + lm M k) / 2 ^ s % BB : Nat) : Int) := by
    rw [hr, ht, Int.natCast_emod, Int.natCast_ediv, Int.natCast_pow]; rfl
  refine ⟨k, _, _, by omega, rfl, by rw [ht], hat.step hx hs hk, ?_, hbel.setCell hg _⟩
  rw [e2]
  have := hrow.set k ((b % BB * BB + lm M k) / 2 ^ s % BB)
  rw [rep_set] at this
  exact this

set_option maxRecDepth 100000 in
set_option maxHeartbeats 1000000 in
theorem shr_any (v : Value) (xs : List Nat) (n : Nat) (w : World) (h : Nums w v xs) (hn : n ≤ 9223372036854775807) (hlen : xs.length ≤ 2000000000) :
    Calls Try.prog 115 #[v, .int .i64 n] w fun e w' => ∃ v', e = .returned (.tuple #[v', .int .i64 0]) ∧ Nums w' v' (lim (val xs / 2 ^ n)) ∧ Below w.heap.size w w' := by
  obtain ⟨i0, hi, hz0, hz1, hz2⟩ := info_parts Try.info84
  have le1 := lim_val_length h.ok
  have HV := hide (val_lim (val xs))
  have HSV := hide (shr_val (lim (val xs)) n (ok_lim _))
  have HOKL := hide (ok_lim (val xs))
  go_enter Try.func115, Try.ntmps115
  go_wp2_with fail
  refine (trim_any v xs _ h).mono ?_
  rintro e w1 ⟨v1, rfl, rfl, hN1, _⟩
  clear h
  obtain ⟨ho1, a1, c1, rfl, hl1, hm1, hc1⟩ := hN1
  have HC := hide hc1
  clear hc1 ho1
  unfold maxLen at hm1
  generalize lim (val xs) = L at *
  by_cases hs : L.length ≤ n / 32
  · have hsI : (L.length : Int) ≤ (n : Int) / 32 := by omega
    go_wp2
    go_ret2
    refine ⟨.slice none 0 0, rfl, ?_, Below.refl _ _⟩
    have e0 : val xs / 2 ^ n = 0 := by rw [← HV.out, HSV.out, drop_over L _ hs]; simp
    rw [e0, lim_zero]
    exact Nums.nil_mk _ _ _ (Nat.zero_le _)
  · have hsI : ¬ (L.length : Int) ≤ (n : Int) / 32 := by omega
    obtain ⟨b, off, rfl, hx⟩ := HC.out (ne_nil (k := n / 32) (by omega))
    have HX := hide hx
    clear hx HC
    go_wp2_with (at_make; refine wpList_make_full _ rfl _ _ 23 rfl w.heap.size 84 i0 (.int .u32 0) 1 Try.underlying23 hi hz0 hz1 _ _ _ _ (L.length - n / 32) rfl rfl ?_ ?_ ?_ ?_ (Nat.le_refl _) ?_)
    all_goals try (first | rfl | omega)
    all_goals try (rw [hz2]; omega)
    all_goals try (unfold maxLen; omega)
    intro w1 hown hgrow
    have hbel : Below w.heap.size w w1 := (Below.refl _ _).grown hgrow (Nat.le_refl _) (fun k hk => by simp at hk)
    have hrow : Row w1 w.heap.size w.heap.size (L.length - n / 32) (fil [] (L.length - n / 32)) := by unfold Row; rw [← made_fil]; exact hown
    clear hown hgrow
    go_wp2
    have HML : Hid ((L.drop (n / 32)).length = L.length - n / 32) := List.length_drop
    have HLM : Hid (∀ i, lm (L.drop (n / 32)) i = lm L (n / 32 + i)) := fun i => lm_drop _ _ _
    have HOM := hide (HOKL.out.drop (n / 32))
    have hcm : ∀ i, i < (L.drop (n / 32)).length → w.cell? ⟨b, off + n / 32 + i, none⟩ = some (.int .u32 (lm (L.drop (n / 32)) i : Nat)) := by
      intro i hi'
      rw [HML.out] at hi'
      rw [HLM.out, Nat.add_assoc]
      exact HX.out _ (by omega)
    rw [← HML.out] at hrow ⊢
    have HCM := hide hcm
    have hmb : (L.drop (n / 32)).length ≤ 2000000000 := by rw [HML.out]; omega
    clear hcm HML HLM HX
    generalize L.drop (n / 32) = M at *
    obtain ⟨s, hs'⟩ : ∃ s, s = n % 32 := ⟨_, rfl⟩
    have HS := hide hs'
    have hs32 : s ≤ 32 := by omega
    have hsn : (s : Int) = (n : Int) % 32 := by omega
    clear hs'
    go_loopw [7, 8] (fun bv iv wr => ∃ (k b : Nat) (A : List Nat), k ≤ M.length ∧ iv = .int .i64 ((k : Int) - 1) ∧ bv = .int .u64 b ∧ ShrAt M s k b A ∧ Row wr w.heap.size w.heap.size M.length (List.replicate k 0 ++ A) ∧ Below w.heap.size w wr) (fun _ iv _ => (intOf iv + 1).toNat)
    case atStart => exact ⟨M.length, 0, [], Nat.le_refl _, by go_num, rfl, ShrAt.start _ _, by simpa [fil] using hrow, hbel⟩
    case round =>
      clear hrow hbel
      obtain ⟨k, bo, A, hk, rfl, rfl, hat, hrow, hbel⟩ := hrel
      cases k with
      | zero =>
        rw [List.replicate_zero, List.nil_append] at hrow
        have hal : A.length = M.length := by rw [hat.len]; omega
        have HN := hide (hrow.nums hal hat.ok)
        have HVA : Hid (val A = val M / 2 ^ s) := by have := hat.sum; rw [List.drop_zero] at this; exact this
        have HB := hide hbel
        clear hrow hbel hat hal
        go_wp2_with fail
        refine (trim_any _ _ _ HN.out).mono ?_
        rintro e w5 ⟨v5, rfl, rfl, hN5, _⟩
        go_wp2
        go_ret2
        refine ⟨v5, rfl, ?_, HB.out⟩
        have e0 : val xs / 2 ^ n = val A := by rw [← HV.out, HSV.out, HVA.out, HS.out]
        rw [e0]; exact hN5
      | succ k =>
        rw [show (((k + 1 : Nat) : Int) - 1) = (k : Int) from by omega]
        have hxb := HOM.out.at k
        have hxc := (hbel.cell (World.block_lt_of_cell? w _ (HCM.out k (by omega)))).trans (HCM.out k (by omega))
        unfold BB at hxb
        have hf := hrow.free k
        have hcl := hrow.cell (by rw [List.length_append, List.length_replicate, hat.len]; omega) k (by omega)
        have hor := or_up bo (lm M k) hxb
        have HAT := hide hat
        have HR := hide hrow
        have HB := hide hbel
        clear hat hrow hbel
        go_wp2
        refine ⟨shr_next HAT.out HOM.out hs32 (by omega) (Nat.le_refl _) HR.out HB.out (by rw [Int.natCast_add, Int.natCast_mul, Int.natCast_emod]) (by rw [HS.out]), ?_⟩
        simp [intOf]
end Go.Proofs.Ytgkibmigbjjnnaa

namespace Go.Proofs.Ytgkibmigbjjnnaa
open Go.RowKit

theorem run_make32 (n : Nat) (hn : n ≤ 4000000000) (kn : Int) (e : kn = (n : Int)) (w : World) :
    (Instr.makeSlice 23 (.int .i64 kn) (.int .i64 kn)).run Try.prog w = .ok (.slice (some ⟨w.heap.size, 0, none⟩) n n) (w.alloc (.cells (ints (fil [] n)).toArray 84)) := by
  obtain ⟨i0, hi, hz0, hz1, hz2⟩ := info_parts Try.info84
  subst e
  have hr := run_make (P := Try.prog) w 23 84 i0 (.int .u32 0) Try.underlying23 hi hz0 .i64 .i64 n n (by omega) (Int.le_refl _) (by rw [hz2]; omega) (by omega)
  rw [hr]
  simp only [Int.toNat_natCast, hz1, Nat.mul_one]
  rw [← made_fil]
  rfl

theorem seg_new (w : World) (n : Nat) (hn : n ≤ 4000000000) : Seg (w.alloc (.cells (ints (fil [] n)).toArray 84)) 0 w.heap.size n n (fil [] n) := by
  refine ⟨?_, by simp [fil]⟩
  have := World.ownsRow_lit (base := 0) (e := 84) (size := 1) w (ints (fil [] n)).toArray n (Nat.zero_le _) (by unfold maxLen; omega) (by simp [ints, fil])
  show World.ownsRow _ _ _ _ _ _ _
  simpa using this

theorem two_rows (w : World) (m n : Nat) (hm : m ≤ 4000000000) (hn : n ≤ 4000000000) :
    ∃ W0, W0 = ((w.alloc (.cells (ints (fil [] m)).toArray 84)).alloc (.cells (ints (fil [] n)).toArray 84)).drew ∧ Seg W0 0 w.heap.size m m (fil [] m) ∧ Seg W0 0 (w.heap.size + 1) n n (fil [] n) ∧ Below w.heap.size w W0 := by
  refine ⟨_, rfl, ?_, ?_, ?_⟩
  · exact ((seg_new w m hm).kept (row := none) (World.grownBy_alloc _ (.cells (ints (fil [] n)).toArray 84) _) (by simp) : Seg _ 0 _ _ _ _)
  · have := seg_new (w.alloc (.cells (ints (fil [] m)).toArray 84)) n hn
    rw [World.size_alloc] at this
    exact this
  · exact (((below_alloc w _).trans ((below_alloc _ _).mono (by simp))).drew)

theorem apart_old {w : World} {b off n c g : Nat} {xs : List Nat} (hb : b < w.heap.size) (hg : w.heap.size ≤ g) : Apart (.slice (some ⟨b, off, none⟩) n c) xs g := by
  intro _ ad n' c' he
  simp only [Value.slice.injEq, Option.some.injEq] at he
  obtain ⟨rfl, _, _⟩ := he
  show b ≠ g
  omega

theorem below_gb {w a b : World} {g : Nat} (h : Below w.heap.size w a) (hg : a.grownBy b (some g)) (hge : w.heap.size ≤ g) : Below w.heap.size w b :=
  h.grown hg h.size (fun k e => by cases e; exact hge)

theorem split3 (R : List Nat) (j n : Nat) (h : j + n ≤ R.length) : ∃ R1 P R2, R = R1 ++ (P ++ R2) ∧ R1.length = j ∧ P.length = n :=
  ⟨R.take j, (R.drop j).take n, (R.drop j).drop n, by rw [List.take_append_drop, List.take_append_drop], by rw [List.length_take]; omega, by rw [List.length_take, List.length_drop]; omega⟩

theorem seg_nums {w : World} {base g N cap : Nat} {R : List Nat} (h : Seg w base g N cap R) (ho : Ok R) : Nums w (.slice (some ⟨g, 0, none⟩) N cap) R := h.1.nums h.2 ho

theorem nums_kept {w w' : World} {b off n c : Nat} {xs : List Nat} {row : Option Nat} (h : Nums w (.slice (some ⟨b, off, none⟩) n c) xs) (hg : w.grownBy w' row) (hne : some b ≠ row) : Nums w' (.slice (some ⟨b, off, none⟩) n c) xs := by
  obtain ⟨ho, a, cap, he, h1, h2, h3⟩ := h
  refine ⟨ho, a, cap, he, h1, h2, fun hx => ?_⟩
  obtain ⟨b', off', ha, hc⟩ := h3 hx
  simp only [Value.slice.injEq] at he
  obtain ⟨rfl, rfl, rfl⟩ := he
  simp only [Option.some.injEq, Addr.mk.injEq, and_true] at ha
  obtain ⟨rfl, rfl⟩ := ha
  exact ⟨b, off, rfl, fun i hi => hg.cell (hc i hi) hne⟩

theorem Seg.below {w w' : World} {base g N cap : Nat} {R : List Nat} (h : Seg w base g N cap R) (hb : Below w.heap.size w w') : Seg w' base g N cap R :=
  h.kept (row := none) ⟨hb.os, hb.tape, hb.output, hb.size, fun k hk _ => hb.block k hk⟩ (by simp)

theorem nums_cells {w : World} {b off n c : Nat} {xs : List Nat} (h : Nums w (.slice (some ⟨b, off, none⟩) n c) xs) : ∀ i, i < xs.length → w.cell? ⟨b, off + i, none⟩ = some (.int .u32 (lm xs i : Nat)) := by
  obtain ⟨_, a, cap, he, _, _, h3⟩ := h
  simp only [Value.slice.injEq] at he
  obtain ⟨rfl, _, _⟩ := he
  intro i hi
  obtain ⟨b', off', ha, hc⟩ := h3 (ne_nil hi)
  simp only [Option.some.injEq, Addr.mk.injEq, and_true] at ha
  obtain ⟨rfl, rfl⟩ := ha
  exact hc i hi

theorem gb_one (w : World) (g k : Nat) (u : Value) : w.grownBy (w.setCell ⟨g, k, none⟩ u) (some g) := gb_set (World.grownBy.refl w (some g)) k u

theorem rep_lm (j x : Nat) (A : List Nat) : lm (List.replicate j 0 ++ (x :: A)) j = x := by
  rw [lm_append_right _ _ _ (by simp), List.length_replicate, Nat.sub_self]; rfl

theorem apart_ne {b off n c g : Nat} {xs : List Nat} (h : b ≠ g) : Apart (.slice (some ⟨b, off, none⟩) n c) xs g := by
  intro _ ad n' c' he
  simp only [Value.slice.injEq, Option.some.injEq] at he
  obtain ⟨rfl, _, _⟩ := he
  exact h

theorem rep_set2 (j x y : Nat) (A : List Nat) : (List.replicate j 0 ++ (x :: A)).set j y = List.replicate j 0 ++ (y :: A) := by
  rw [List.set_append_right _ _ (by simp), List.length_replicate, Nat.sub_self]; rfl

set_option maxRecDepth 100000 in
set_option maxHeartbeats 8000000 in
theorem divideLong_any (va vb : Value) (xs ys : List Nat) (k : Nat) (w : World) (ha : Nums w va xs) (hb : Nums w vb ys) (hk : ys.length = k + 2) (htop : 0 < lm ys (k + 1)) (hle : ys.length ≤ xs.length) (hlen : xs.length ≤ 1000000000) :
    Calls Try.prog 104 #[va, vb] w fun e w' => ∃ q r, e = .returned (.tuple #[q, r]) ∧ Nums w' q (lim (val xs / val ys)) ∧ Nums w' r (lim (val xs % val ys)) ∧ Below w.heap.size w w' := by
  have HA := hide ha
  have HB := hide hb
  have HK := hide hk
  have HTOP := hide htop
  have hk1 : k + 2 ≤ ys.length := by omega
  have hk2 : ys.length ≤ k + 2 := by omega
  obtain ⟨_, a1, c1, rfl, hl1, hm1, hc1⟩ := ha
  obtain ⟨oy, a2, c2, rfl, hl2, hm2, hc2⟩ := hb
  obtain ⟨b2, off2, rfl, hy⟩ := hc2 (ne_nil (k := k + 1) (by omega))
  obtain ⟨b1, off1, rfl, hx⟩ := hc1 (ne_nil (k := k + 1) (by omega))
  have hyt := hy (k + 1) (by omega)
  have hytb := oy.at (k + 1)
  unfold BB at hytb
  have hb1 : b1 < w.heap.size := World.block_lt_of_cell? w _ (hx 0 (by omega))
  have hb2 : b2 < w.heap.size := World.block_lt_of_cell? w _ hyt
  have HX := hide hx
  have HY := hide hy
  have HOY := hide oy
  clear hx hy hc1 hc2 hk htop oy
  unfold maxLen at hm1 hm2
  have hidx : ys.length - 1 = k + 1 := by omega
  go_enter Try.func104, Try.ntmps104
  go_wp2
  go_step3
  go_wp2_with fail
  refine (lead_any (lm ys (k + 1)) _ hytb HTOP.out).mono ?_
  rintro e w1 ⟨s, rfl, hs, hs1, hs2, rfl⟩
  have HS1 := hide hs1
  have HS2 := hide hs2
  clear hs1 hs2 hyt
  have hmk1 := fun w => run_make32 (xs.length + 1) (by omega) ((xs.length : Int) + 1) (by omega) w
  have hmk2 := fun w => run_make32 (ys.length + 1) (by omega) ((ys.length : Int) + 1) (by omega) w
  go_wp2
  go_region
  all_goals go_wp2_with fail
  all_goals first
    | (obtain ⟨W0, hW, sr, sb, hB0⟩ := two_rows w (xs.length + 1) (ys.length + 1) (by omega) (by omega); rw [← hW]; obtain ⟨gb, hgb⟩ : ∃ g, g = w.heap.size + 1 := ⟨_, rfl⟩; rw [← hgb] at sb ⊢; obtain ⟨gr, hgr⟩ : ∃ g, g = w.heap.size := ⟨_, rfl⟩; rw [← hgr] at sr ⊢)
    | (obtain ⟨W0, hW, sb, sr, hB0⟩ := two_rows w (ys.length + 1) (xs.length + 1) (by omega) (by omega); rw [← hW]; obtain ⟨gr, hgr⟩ : ∃ g, g = w.heap.size + 1 := ⟨_, rfl⟩; rw [← hgr] at sr ⊢; obtain ⟨gb, hgb⟩ : ∃ g, g = w.heap.size := ⟨_, rfl⟩; rw [← hgb] at sb ⊢)
  all_goals
    have hne : gr ≠ gb := by omega
    have hgr1 : w.heap.size ≤ gr := by omega
    have hgb1 : w.heap.size ≤ gb := by omega
    clear hW hgb hgr hmk1 hmk2
    refine (shiftInto_any _ xs 0 gr (xs.length + 1) (xs.length + 1) _ s [] (fil [] (xs.length + 1)) [] _ (HA.out.below hB0) (apart_old hb1 hgr1) hs (by simpa using sr) (by simp [fil]) (by omega)).mono ?_
    rintro e W1 ⟨rfl, R, hRl, oR, hRv, hsr, hg1⟩
    rw [List.nil_append, List.append_nil] at hsr
    have sb1 := sb.kept hg1 (by simp; omega)
    have hB1 := below_gb hB0 hg1 hgr1
    clear sb sr hg1 hB0
    go_wp2_with fail
    refine (shiftInto_any _ ys 0 gb (ys.length + 1) (ys.length + 1) _ s [] (fil [] (ys.length + 1)) [] _ (HB.out.below hB1) (apart_old hb2 hgb1) hs (by simpa using sb1) (by simp [fil]) (by omega)).mono ?_
    rintro e W2 ⟨rfl, D0, hDl, oD0, hDv, hsb, hg2⟩
    rw [List.nil_append, List.append_nil] at hsb
    have sr2 := hsr.kept hg2 (by simp; omega)
    have hB2 := below_gb hB1 hg2 hgb1
    clear hsr sb1 hg2 hB1
    have hmk3 := fun w => run_make32 (xs.length - ys.length + 1) (by omega) ((xs.length : Int) - (ys.length : Int) + 1) (by omega) w
    obtain ⟨hz, hDv2, hDt⟩ := shifted_top (k := k + 1) (s := s) (by omega) HOY.out oD0 (by omega) hDv HS1.out HS2.out
    have hys : ys.length = k + 1 + 1 := by omega
    have hDN := (seg_nums hsb oD0).take ys.length (by omega)
    rw [← hys] at hDv2 hDt
    have hDlen : (D0.take ys.length).length = ys.length := by rw [List.length_take]; omega
    have oD := oD0.take ys.length
    generalize D0.take ys.length = D at hDv2 hDt hDN hDlen oD
    obtain ⟨T, hT⟩ : ∃ T, T = xs.length - ys.length + 1 := ⟨_, rfl⟩
    have hT1 : T + ys.length ≤ xs.length + 1 := by omega
    have hT2 : xs.length + 1 ≤ T + ys.length := by omega
    have hbound := long_bound (s := s) (val_lt HA.out.ok) hle hs (by have := long_top (k := k + 1) (D := D) (by omega) hDt; rw [hys]; exact this)
    rw [← hT] at hmk3 hbound
    have hgq : gr < W2.heap.size := sr2.lt
    have hgbW : gb < W2.heap.size := hsb.lt
    have hstart := LongAt.start (D := D) oR hRv hbound
    have hQ := seg_new W2 T (by omega)
    have sr3 := sr2.kept (row := none) (World.grownBy_alloc W2 (.cells (ints (fil [] T)).toArray 84) none) (by simp)
    have hDN3 := hDN.below (below_alloc W2 (.cells (ints (fil [] T)).toArray 84))
    have hB3 := hB2.alloc hB2.size (.cells (ints (fil [] T)).toArray 84)
    have HPACK := hide (And.intro hQ (And.intro sr3 (And.intro hDN3 (And.intro hB3 hstart))))
    have HDV := hide hDv2
    have HDT := hide hDt
    have HDL := hide hDlen
    have HOD := hide oD
    have hqs : W2.heap.size ≤ W2.heap.size := Nat.le_refl _
    have hW2 : w.heap.size ≤ W2.heap.size := hB2.size
    clear hz hDv hDv2 hDt hDN hDlen oD hbound hstart hQ sr3 hDN3 hB3 hsb sr2 hB2 oD0 hDl oR hRv hys hqs D0
    have HRL := hide hRl
    clear hRl hT
    go_wp2
    go_step3
    go_wp2
    obtain ⟨gq, hgq2⟩ : ∃ g, g = W2.heap.size := ⟨_, rfl⟩
    rw [← hgq2] at HPACK hgq hgbW hW2 ⊢
    generalize W2.alloc (.cells (ints (fil [] T)).toArray 84) = W3 at HPACK ⊢
    clear hgq2 hmk3
    go_loopw [10] (fun iv wr => ∃ (J : Nat) (R Qs : List Nat), J ≤ T ∧ iv = .int .i64 ((J : Int) - 1) ∧ LongAt (val xs * 2 ^ s) D R Qs J ∧ R.length = xs.length + 1 ∧ Qs.length = T - J ∧ Seg wr 0 gr (xs.length + 1) (xs.length + 1) R ∧ Seg wr 0 gq T T (List.replicate J 0 ++ Qs) ∧ Nums wr (.slice (some ⟨gb, 0, none⟩) ys.length (ys.length + 1)) D ∧ Below w.heap.size w wr) (fun iv _ => (intOf iv + 1).toNat)
    case atStart =>
      obtain ⟨hQ, sr3, hDN3, hB3, hstart⟩ := HPACK.out
      exact ⟨T, R, [], Nat.le_refl _, by go_num, hstart, HRL.out, by simp, sr3, by simpa [fil] using hQ, hDN3, hB3⟩
    case round =>
      clear HPACK HRL
      obtain ⟨J, R', Qs, hJ, rfl, hat, hRl', hQl, hsr, hsq, hDN, hB⟩ := hrel
      cases J with
      | zero =>
        have hyp : 0 < val ys := by
          have e : val ys = val (ys.take (k + 1)) + BB ^ (k + 1) * lm ys (k + 1) := by rw [← take_succ_any, List.take_of_length_le (by omega)]
          have : 0 < BB ^ (k + 1) * lm ys (k + 1) := Nat.mul_pos (Nat.pow_pos BB_pos) HTOP.out
          omega
        have HE := hide (long_end hat HDV.out hyp)
        have hql : Qs.length = T := by rw [hQl]; omega
        rw [List.replicate_zero, List.nil_append] at hsq
        have HNR := hide (seg_nums hsr hat.okR)
        have HNQ := hide (seg_nums hsq hat.okQ)
        have HBW := hide hB
        have hRb : R'.length ≤ 1000000001 := by omega
        clear hat hsr hsq hDN hB hyp hql hQl
        go_wp2_with fail
        refine (shr_any _ R' s _ HNR.out (by omega) (by omega)).mono ?_
        rintro e w4 ⟨v4, rfl, hN4, hb4⟩
        rw [HE.out.2] at hN4
        have HN4 := hide hN4
        have HNQ4 := hide (HNQ.out.below hb4)
        have HB4 := hide (HBW.out.trans (hb4.mono HBW.out.size))
        clear hN4 hb4
        go_wp2_with fail
        refine (trim_any _ _ _ HNQ4.out).mono ?_
        rintro e w5 ⟨v5, rfl, rfl, hN5, _⟩
        rw [HE.out.1] at hN5
        go_wp2
        try rw [Exit.noGoto_ret]
        go_ret2
        exact ⟨_, _, rfl, hN5, HN4.out, HB4.out⟩
      | succ j =>
        rw [show (((j + 1 : Nat) : Int) - 1) = (j : Int) from by omega]
        obtain ⟨R1, P, R2, rfl, hR1, hP⟩ := split3 R' j (ys.length + 1) (by omega)
        have HAT := hide hat
        have HRL' := hide hRl'
        have HQL := hide hQl
        have HSR := hide hsr
        have HSQ := hide hsq
        have HDN := hide hDN
        have HBW := hide hB
        have HR1 := hide hR1
        have HP := hide hP
        clear hat hRl' hQl hsr hsq hDN hB hR1 hP
        have HDP : Hid (0 < val D) := by
          have := HDT.out
          have h2 : BB ^ (k + 1) * lm D (k + 1) ≤ val D := by
            have e : val D = val (D.take (k + 1)) + BB ^ (k + 1) * lm D (k + 1) := by rw [← take_succ_any, List.take_of_length_le (by have := HDL.out; omega)]
            omega
          have h3 : 0 < BB ^ (k + 1) * lm D (k + 1) := Nat.mul_pos (Nat.pow_pos BB_pos) (by omega)
          show 0 < val D
          omega
        have oP : Ok P := fun x hx => HAT.out.okR x (List.mem_append_right _ (List.mem_append_left _ hx))
        have HOP := hide oP
        have hPD := (long_parts HR1.out HP.out HDL.out HOD.out HAT.out.lt).2.2
        have HPD := hide hPD
        clear oP hPD
        go_wp2_with fail
        rw [show j + ys.length + 1 - j = ys.length + 1 from by omega]
        refine (guess_any gb 0 ys.length (ys.length + 1) gr j (ys.length + 1) (xs.length + 1 - j) k P D _ (by have := HDL.out; omega) (by have := HP.out; omega) HOD.out HOP.out (by omega) (by omega) (nums_cells HDN.out) ?_ HDT.out HPD.out (by omega)).mono ?_
        · intro i hi'
          have h1 := HP.out
          have := HSR.out.cell (j + i) (by omega)
          have h2 := mid_lm0 R1 P R2 i hi'
          rw [HR1.out] at h2
          rw [h2] at this
          exact this
        rintro e w4 ⟨g, rfl, hgB, hgg1, hgg2, hb4⟩
        have HG1 := hide hgg1
        have HG2 := hide hgg2
        have HGB : Hid (g < BB) := hgB
        unfold BB at hgB
        have sq4 := HSQ.out.below hb4
        have sr4 := HSR.out.below hb4
        have dn4 := HDN.out.below hb4
        have bl4 := HBW.out.trans (hb4.mono HBW.out.size)
        have hf4 := sq4.free j
        have hc4 := sq4.cell j (by omega)
        have sq5 := sq4.set j g (rep_set j g Qs)
        have sr5 := sr4.kept (gb_one w4 gq j (.int .u32 (g : Nat))) (by simp; omega)
        have dn5 := nums_kept dn4 (gb_one w4 gq j (.int .u32 (g : Nat))) (by simp; omega)
        have bl5 := below_gb bl4 (gb_one w4 gq j (.int .u32 (g : Nat))) (by omega)
        have HSQ5 := hide sq5
        have HSR5 := hide sr5
        have HDN5 := hide dn5
        have HBL5 := hide bl5
        clear sq4 sr4 dn4 bl4 sq5 sr5 dn5 bl5 hb4 hgg1 hgg2 HSQ HSR HDN HBW
        go_wp2_with fail
        have hta := takeAway_any (.slice (some ⟨gb, 0, none⟩) ys.length (ys.length + 1)) D 0 gr (xs.length + 1) (xs.length + 1) (xs.length + 1 - j) g R1 P R2 _ HDN5.out (apart_ne (by omega)) hgB HOP.out HSR5.out (by rw [HP.out, HDL.out])
        rw [HR1.out, HDL.out] at hta
        refine hta.mono ?_
        rintro e w6 ⟨P', b, hb, rfl, hP'l, oP', hsum, hsr6, hg6⟩
        have HSUM := hide hsum
        have HP'L := hide hP'l
        have HOP' := hide oP'
        have HSR6 := hide hsr6
        have HSQ6 := hide (HSQ5.out.kept hg6 (by simp; omega))
        have HDN6 := hide (nums_kept HDN5.out hg6 (by simp; omega))
        have HBL6 := hide (below_gb HBL5.out hg6 hgr1)
        clear hta hsum hP'l oP' hsr6 hg6 HSQ5 HSR5 HDN5 HBL5 hf4 hc4
        rcases (show b = 0 ∨ b = 1 from by omega) with rfl | rfl
        · have HTR := hide (take_right (by have := HSUM.out; rw [Nat.mul_zero, Nat.add_zero] at this; exact this) HDP.out HG1.out)
          go_wp2
          go_roundw
          case rel => exact ⟨j, R1 ++ (P' ++ R2), g :: Qs, by omega, by go_num, HAT.out.step HR1.out HP.out HDL.out HOD.out HOP'.out HTR.out.1 HTR.out.2 HDP.out, HSR6.out.2, by rw [List.length_cons, HQL.out]; omega, HSR6.out, HSQ6.out, HDN6.out, HBL6.out⟩
          case measure => simp [intOf]
        · have hgpos : 1 ≤ g := by
            rcases Nat.eq_zero_or_pos g with h0 | h0
            · exfalso
              have h1 := HSUM.out
              rw [h0, Nat.zero_mul, Nat.mul_one] at h1
              have h2 := val_lt HOP'.out
              rw [HP'L.out] at h2
              omega
            · exact h0
          go_wp2_with fail
          have hgi := giveBack_any (.slice (some ⟨gb, 0, none⟩) ys.length (ys.length + 1)) D 0 gr (xs.length + 1) (xs.length + 1) (xs.length + 1 - j) R1 P' R2 _ HDN6.out (apart_ne (by omega)) HOP'.out HSR6.out (by rw [HP'L.out, HDL.out])
          rw [HR1.out, HDL.out] at hgi
          refine hgi.mono ?_
          rintro e w7 ⟨rfl, P'', o, hP''l, oP'', hsum2, hsr7, hg7⟩
          have sq7 := HSQ6.out.kept hg7 (by simp; omega)
          have hf7 := sq7.free j
          have hc7 := sq7.cell j (by omega)
          rw [rep_lm] at hc7
          have dn7 := nums_kept HDN6.out hg7 (by simp; omega)
          have bl7 := below_gb HBL6.out hg7 hgr1
          have sq8 := sq7.set j (g - 1) (rep_set2 j g (g - 1) Qs)
          have sr8 := hsr7.kept (gb_one w7 gq j (.int .u32 ((g - 1 : Nat) : Int))) (by simp; omega)
          have dn8 := nums_kept dn7 (gb_one w7 gq j (.int .u32 ((g - 1 : Nat) : Int))) (by simp; omega)
          have bl8 := below_gb bl7 (gb_one w7 gq j (.int .u32 ((g - 1 : Nat) : Int))) (by omega)
          have hto : g = val P / val D + 1 ∧ val P'' = val P % val D := by
            refine take_over (K := BB ^ (ys.length + 1)) (o := o) (p' := val P') ?_ HDP.out HG2.out ?_ ?_ ?_ ?_
            · have := HSUM.out; rw [Nat.mul_one] at this; exact this
            · have := val_lt HOP'.out; rw [HP'L.out] at this; exact this
            · exact hsum2
            · have := val_lt oP''; rw [hP''l] at this; exact this
            · have h1 := val_lt HOD.out
              rw [HDL.out] at h1
              have : BB ^ ys.length ≤ BB ^ (ys.length + 1) := Nat.pow_le_pow_right BB_pos (by omega)
              omega
          have HTO := hide hto
          have HSQ8 := hide sq8
          have HSR8 := hide sr8
          have HDN8 := hide dn8
          have HBL8 := hide bl8
          have HOP'' := hide oP''
          have hgI : (g : Int) - 1 = ((g - 1 : Nat) : Int) := by omega
          clear hgi hsum2 hsr7 hg7 sq7 dn7 bl7 sq8 sr8 dn8 bl8 hto oP'' hP''l
          go_wp2
          go_roundw
          case rel => exact ⟨j, R1 ++ (P'' ++ R2), (g - 1) :: Qs, by omega, by go_num, HAT.out.step HR1.out HP.out HDL.out HOD.out HOP''.out (by have := HTO.out.1; omega) HTO.out.2 HDP.out, HSR8.out.2, by rw [List.length_cons, HQL.out]; omega, HSR8.out, HSQ8.out, HDN8.out, HBL8.out⟩
          case measure => simp [intOf]
end Go.Proofs.Ytgkibmigbjjnnaa

namespace Go.Proofs.Ytgkibmigbjjnnaa
open Go.RowKit

theorem lim_top {n : Nat} (h : 0 < n) : lm (lim n) ((lim n).length - 1) ≠ 0 := by
  refine lim_ind (p := fun n => 0 < n → lm (lim n) ((lim n).length - 1) ≠ 0) (by intro h; omega) (fun n hn ih => ?_) n h
  intro _
  rw [lim_pos hn]
  by_cases h0 : n / BB = 0
  · rw [h0, lim_zero]
    have := Nat.div_add_mod n BB
    rw [h0, Nat.mul_zero, Nat.zero_add] at this
    simp [lm]; omega
  · have := ih (Nat.pos_of_ne_zero h0)
    have hp := lim_len_pos (n := n / BB) (Nat.pos_of_ne_zero h0)
    obtain ⟨m, hm⟩ : ∃ m, (lim (n / BB)).length = m + 1 := ⟨(lim (n / BB)).length - 1, by omega⟩
    rw [hm] at this
    simp only [List.length_cons, hm, Nat.add_sub_cancel] at this ⊢
    simpa [lm] using this

set_option maxRecDepth 100000 in
set_option maxHeartbeats 1000000 in
theorem divmod_long (v1 v2 : Value) (xs ys : List Nat) (w : World) (h1 : Nums w v1 xs) (h2 : Nums w v2 ys) (b1 : xs.length ≤ 1000000000) (hlt : ¬ (lim (val xs)).length < (lim (val ys)).length) (hone : 2 ≤ (lim (val ys)).length) :
    Calls Try.prog 91 #[v1, v2] w fun e w' => ∃ q r, e = .returned (.tuple #[q, r, .int .i64 0]) ∧ Nums w' q (lim (val xs / val ys)) ∧ Nums w' r (lim (val xs % val ys)) ∧ Below w.heap.size w w' := by
  have HN2 : Hid (Nums w v2 ys) := h2
  have HB := hide (lim_val_length h1.ok)
  have HT : Hid (0 < lm (lim (val ys)) ((lim (val ys)).length - 1)) := by
    have : 0 < val ys := by
      rcases Nat.eq_zero_or_pos (val ys) with e | e
      · rw [e, lim_zero] at hone; simp at hone
      · exact e
    exact Nat.pos_of_ne_zero (lim_top this)
  have hne0 : ((((lim (val ys)).length : Nat) : Int) == 0) = false := by simp; intro h; rw [h] at hone; simp at hone
  have hne1 : ((((lim (val ys)).length : Nat) : Int) == 1) = false := by simp; omega
  go_enter Try.func91, Try.ntmps91
  go_wp2_with fail
  refine (trim_any v1 xs _ h1).mono ?_
  rintro e w1 ⟨v1', rfl, rfl, hN1, _⟩
  go_wp2_with fail
  refine (trim_any v2 ys _ HN2.out).mono ?_
  rintro e w1 ⟨v2', rfl, rfl, hN2, _⟩
  clear h1 h2 HN2
  have HN1 := hide hN1
  have HN2 := hide hN2
  obtain ⟨_, a2, c2, rfl, hl2, hm2, _⟩ := hN2
  obtain ⟨_, a1, c1, rfl, hl1, hm1, _⟩ := hN1
  unfold maxLen at hm1 hm2
  go_wp2_with fail
  refine (divideLong_any _ _ (lim (val xs)) (lim (val ys)) ((lim (val ys)).length - 2) _ HN1.out HN2.out (by omega) (by rw [show (lim (val ys)).length - 2 + 1 = (lim (val ys)).length - 1 from by omega]; exact HT.out) (by omega) (by have := HB.out; omega)).mono ?_
  rintro e w2 ⟨q, r, rfl, hq, hr, hb⟩
  rw [val_lim, val_lim] at hq hr
  have HQ := hide hq
  have HR := hide hr
  clear hq hr
  go_wp2
  go_ret3
  exact ⟨_, _, rfl, HQ.out, HR.out, hb⟩

theorem divmod_any (v1 v2 : Value) (xs ys : List Nat) (w : World) (h1 : Nums w v1 xs) (h2 : Nums w v2 ys) (b1 : xs.length ≤ 1000000000) (hy : 0 < val ys) :
    Calls Try.prog 91 #[v1, v2] w fun e w' => ∃ q r, e = .returned (.tuple #[q, r, .int .i64 0]) ∧ Nums w' q (lim (val xs / val ys)) ∧ Nums w' r (lim (val xs % val ys)) ∧ Below w.heap.size w w' := by
  by_cases hlt : (lim (val xs)).length < (lim (val ys)).length
  · refine (divmod_small v1 v2 xs ys w h1 h2 b1 hlt).mono ?_
    rintro e w' ⟨r, rfl, hr, hb⟩
    have hxy := lim_len_lt hlt
    refine ⟨_, r, rfl, ?_, ?_, hb⟩
    · rw [Nat.div_eq_of_lt hxy, lim_zero]; exact Nums.nil_mk _ _ _ (Nat.zero_le _)
    · rw [Nat.mod_eq_of_lt hxy]; exact hr
  · by_cases hone : (lim (val ys)).length = 1
    · exact divmod_one v1 v2 xs ys w h1 h2 b1 hlt hone
    · exact divmod_long v1 v2 xs ys w h1 h2 b1 hlt (by have := lim_len_pos hy; omega)



set_option maxRecDepth 100000 in
set_option maxHeartbeats 1000000 in
theorem gcd_any (v1 v2 : Value) (xs ys : List Nat) (w : World) (h1 : Nums w v1 xs) (h2 : Nums w v2 ys) (b1 : xs.length ≤ 1000000000) (b2 : ys.length ≤ 1000000000) :
    Calls Try.prog 76 #[v1, v2] w fun e w' => ∃ v', e = .returned v' ∧ Nums w' v' (lim (Nat.gcd (val xs) (val ys))) ∧ Below w.heap.size w w' := by
  have HN2 := hide h2
  have HO1 := hide h1.ok
  have HO2 := hide h2.ok
  go_enter Try.func76, Try.ntmps76
  go_wp2_with fail
  refine (norm_any v1 xs _ h1 b1).mono ?_
  rintro e w1 ⟨va, rfl, _, n1, hb1⟩
  have HN2' := hide (HN2.out.below hb1)
  clear h1 h2 HN2
  go_wp2_with fail
  refine (norm_any v2 ys _ HN2'.out b2).mono ?_
  rintro e w2 ⟨vb, rfl, _, n2, hb2⟩
  have HA := hide (n1.below hb2)
  have HB := hide n2
  have HBL := hide (hb1.trans (hb2.mono hb1.size))
  clear n1 n2 hb1 hb2 HN2'
  go_wp2
  go_loopw [5, 6] (fun xv yv wr => ∃ m n : Nat, Nat.gcd m n = Nat.gcd (val xs) (val ys) ∧ (lim m).length ≤ 1000000000 ∧ (lim n).length ≤ 1000000000 ∧ Nums wr xv (lim m) ∧ Nums wr yv (lim n) ∧ Below w.heap.size w wr) (fun _ yv wr => numOf wr yv)
  case atStart =>
    have e1 := lim_val_length HO1.out
    have e2 := lim_val_length HO2.out
    exact ⟨_, _, rfl, by omega, by omega, HA.out, HB.out, HBL.out⟩
  case round =>
    obtain ⟨m, n, hg, hm1, hn1, hNm, hNn, hbel⟩ := hrel
    have HG := hide hg
    have HM := hide hNm
    have HN := hide hNn
    have HBW := hide hbel
    have HNUM := hide hNn.numOf
    obtain ⟨_, ay, cy, rfl, hly, hmy, _⟩ := hNn
    unfold maxLen at hmy
    clear hg hNm hbel
    by_cases hz : n = 0
    · subst hz
      rw [lim_zero]
      go_wp2
      go_ret
      refine ⟨_, rfl, ?_, HBW.out⟩
      rw [← HG.out, Nat.gcd_zero_right]; exact HM.out
    · have hp : 0 < (lim n).length := lim_len_pos (by omega)
      go_wp2_with fail
      refine (divmod_any _ _ (lim m) (lim n) _ HM.out HN.out hm1 (by rw [val_lim]; omega)).mono ?_
      rintro e w3 ⟨q, r, rfl, _, hr, hb3⟩
      rw [val_lim, val_lim] at hr
      have HR := hide hr
      have HNr := hide (HN.out.below hb3)
      have HB3 := hide (HBW.out.trans (hb3.mono HBW.out.size))
      clear hr hb3
      go_wp2
      go_roundw
      case rel => exact ⟨n, m % n, by rw [← HG.out, Nat.gcd_comm m n, Nat.gcd_rec n m, Nat.gcd_comm], hn1, Nat.le_trans (lim_length_le (Nat.lt_of_lt_of_le (Nat.mod_lt m (by omega)) (Nat.le_of_lt (by have := val_lt (ok_lim n); rw [val_lim] at this; exact this)))) hn1, HNr.out, HR.out, HB3.out⟩
      case measure => rw [HNUM.out, HR.out.numOf, val_lim, val_lim]; exact Nat.mod_lt _ (by omega)
end Go.Proofs.Ytgkibmigbjjnnaa
