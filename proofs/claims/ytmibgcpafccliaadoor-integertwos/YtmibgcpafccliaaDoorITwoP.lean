/- integer.Int's Shl and Shr, each case as one sentence. -/
import Derived.Test.YtmibgcpafccliaaDoorITwo
namespace Go.Proofs.YtmibgcpafccliaaDoor
open Go.RowKit

def ShlP (z n r er : Int) : Prop := ∀ v w, IntAt w v z → Calls Tryd.prog 31 #[v, .int .i64 n] w fun e w' => ∃ v', e = .returned (.tuple #[v', .int .i64 er]) ∧ IntAt w' v' r ∧ Below w.heap.size w w'
def ShrP (z n r er : Int) : Prop := ∀ v w, IntAt w v z → TabW w → Calls Tryd.prog 32 #[v, .int .i64 n] w fun e w' => ∃ v', e = .returned (.tuple #[v', .int .i64 er]) ∧ IntAt w' v' r ∧ Below w.heap.size w w'

theorem nil_lim (w : World) : Nums w (.slice none 0 0) (lim 0) := by rw [lim_zero]; exact Nums.nil_mk _ _ _ (Nat.zero_le _)
theorem shlP_neg (z n : Int) (hn : n < 0) : ShlP z n 0 2 := by
  rintro v w ⟨b, m, a, c, rfl, hm, rfl, h0⟩
  have := ishl_gen b m 0 a c n 2 w hm (fun W hW => (shl_neg _ (lim m) n W hW hn).mono (by rintro e w' ⟨rfl, rfl⟩; exact ⟨_, rfl, nil_lim _, Below.refl _ _⟩))
  rwa [sg_zero] at this
theorem shlP_big (z : Int) (n : Nat) (hn : 65536 < n) : ShlP z n 0 3 := by
  rintro v w ⟨b, m, a, c, rfl, hm, rfl, h0⟩
  have := ishl_gen b m 0 a c n 3 w hm (fun W hW => (shl_big _ (lim m) n W hW hn).mono (by rintro e w' ⟨rfl, rfl⟩; exact ⟨_, rfl, nil_lim _, Below.refl _ _⟩))
  rwa [sg_zero] at this
theorem shlP_ok (z : Int) (n : Nat) (hn : n ≤ 65536) (hlen : (lim z.natAbs).length ≤ 1000000) : ShlP z n (z * ((2 ^ n : Nat) : Int)) 0 := by
  rintro v w ⟨b, m, a, c, rfl, hm, rfl, h0⟩
  rw [sg_abs] at hlen
  have := ishl_gen b m (m * 2 ^ n) a c n 0 w hm (fun W hW => (shl_any _ (lim m) n W hW hn hlen).mono (by rintro e w' ⟨v', rfl, h1, h2⟩; rw [val_lim] at h1; exact ⟨v', rfl, h1, h2⟩))
  rwa [sg_times] at this
theorem shrP_neg (z n : Int) (hn : n < 0) (hlen : (lim z.natAbs).length ≤ 1000000) : ShrP z n 0 2 := by
  rintro v w ⟨b, m, a, c, rfl, hm, rfl, h0⟩ hT
  rw [sg_abs] at hlen
  have := ishr_gen b m 0 a c n 2 w ⟨b, m, a, c, rfl, hm, rfl, h0⟩ hm hT hlen (fun h => by obtain ⟨K, hK⟩ := exists_twos m (Nat.pos_of_ne_zero h); exact ⟨K, hK, by omega⟩) (fun W hW => (shr_neg _ (lim m) n W hW hn).mono (by rintro e w' ⟨rfl, rfl⟩; exact ⟨_, rfl, nil_lim _, Below.refl _ _⟩))
  rwa [sg_zero] at this
theorem twos_ge {m K k : Nat} (h : IsTwos m K) (hd : 2 ^ k ∣ m) : k ≤ K := by
  rcases Nat.lt_or_ge K k with hlt | hge
  · exfalso
    obtain ⟨q, hq⟩ := hd
    obtain ⟨d, rfl⟩ : ∃ d, k = K + 1 + d := ⟨k - K - 1, by omega⟩
    have h1 := twos_bit h
    unfold bitB at h1
    rw [hq, show 2 ^ (K + 1 + d) * q = 2 ^ K * (2 * (2 ^ d * q)) from by rw [Nat.pow_add, Nat.pow_succ]; simp [Nat.mul_assoc], Nat.mul_div_cancel_left _ (Nat.two_pow_pos K)] at h1
    simp at h1
  · exact hge
theorem shrP_exact (z q : Int) (n : Nat) (hn : n ≤ 9223372036854775807) (hq : z = q * ((2 ^ n : Nat) : Int)) (hlen : (lim z.natAbs).length ≤ 1000000) : ShrP z n q 0 := by
  rintro v w ⟨b, m, a, c, rfl, hm, hz, h0⟩ hT
  have hd : 2 ^ n ∣ m := by
    have h1 : m = q.natAbs * 2 ^ n := by rw [← sg_abs b m, ← hz, hq, Int.natAbs_mul, Int.natAbs_natCast]
    exact ⟨q.natAbs, by rw [h1, Nat.mul_comm]⟩
  have hx : m / 2 ^ n * 2 ^ n = m := Nat.div_mul_cancel hd
  have hs : sg b (m / 2 ^ n) = q := by
    have h1 : sg b (m / 2 ^ n) * ((2 ^ n : Nat) : Int) = q * ((2 ^ n : Nat) : Int) := by rw [← sg_times, hx, ← hz, hq]
    exact Int.eq_of_mul_eq_mul_right (by have := Nat.two_pow_pos n; omega) h1
  rw [hz, sg_abs] at hlen
  have := ishr_gen b m (m / 2 ^ n) a c n 0 w ⟨b, m, a, c, rfl, hm, rfl, h0⟩ hm hT hlen (fun h => by obtain ⟨K, hK⟩ := exists_twos m (Nat.pos_of_ne_zero h); exact ⟨K, hK, by have := twos_ge hK hd; omega⟩) (fun W hW => (shr_any _ (lim m) n W hW hn (by omega)).mono (by rintro e w' ⟨v', rfl, h1, h2⟩; rw [val_lim] at h1; exact ⟨v', rfl, h1, h2⟩))
  rwa [hs] at this
theorem shrP_not (z : Int) (n : Nat) (hz : ¬ ((2 ^ n : Nat) : Int) ∣ z) (hlen : (lim z.natAbs).length ≤ 1000000) : ShrP z n 0 20 := by
  intro v w h hT
  have hz0 : z ≠ 0 := fun e => hz (e ▸ Int.dvd_zero _)
  obtain ⟨K, hK⟩ := exists_twos z.natAbs (by omega)
  refine ishr_not v z n K w h hT hlen hz0 hK ?_
  rcases Nat.lt_or_ge K n with h1 | h1
  · exact h1
  · exfalso
    refine hz (Int.ofNat_dvd_left.2 ?_)
    obtain ⟨m, hm⟩ := hK
    rw [hm]
    exact Nat.dvd_trans (Nat.pow_dvd_pow 2 h1) (Nat.dvd_mul_right _ _)
end Go.Proofs.YtmibgcpafccliaaDoor
