/- math/bits.Len64 and Len; limb.Bits, integer.Int's Bits; the document's Bits. -/
import Derived.Test.YtmibgcpafccliaaDoorR2Bits
namespace Go.Proofs.YtmibgcpafccliaaDoor
open Go.RowKit

theorem w64_len2 (c : Int) (t : Nat) (hc : 0 ≤ c) (hc2 : c ≤ 56) (ht : t ≤ 8) : wrap64 (c + wrap64 (t : Int)) = c + (t : Int) := by
  unfold wrap64; omega
theorem tab_up2 {x L b : Nat} (hx : 0 < x / 2 ^ b) (h : IsLen (x / 2 ^ b) L ∧ L ≤ 8) (hb : b ≤ 56) : IsLen x (b + L) ∧ b + L ≤ 64 := ⟨h.1.shift hx, by omega⟩



theorem top_div {L : List Nat} {n : Nat} (ho : Ok L) (h : L.length = n + 1) : val L / 2 ^ (32 * n) = lm L n := by
  have e : val L = val (L.take n) + BB ^ n * lm L n := by rw [← take_succ_any, List.take_of_length_le (by omega)]
  have hl := val_lt (ho.take n)
  rw [List.length_take, Nat.min_eq_left (by omega)] at hl
  have hB : BB ^ n = 2 ^ (32 * n) := by rw [Nat.pow_mul]; rfl
  rw [hB] at e hl
  rw [e, Nat.add_mul_div_left _ _ (Nat.two_pow_pos _), Nat.div_eq_of_lt hl, Nat.zero_add]
theorem lim_last0 {n : Nat} (h : 0 < n) : lm (lim n) ((lim n).length - 1) ≠ 0 := by
  revert h
  refine lim_ind (p := fun n => 0 < n → lm (lim n) ((lim n).length - 1) ≠ 0) (fun h => absurd h (by decide)) (fun n hn ih _ => ?_) n
  rw [lim_pos hn]
  by_cases h0 : n / BB = 0
  · rw [h0, lim_zero]
    have : n % BB = n := Nat.mod_eq_of_lt ((Nat.div_eq_zero_iff_lt BB_pos).1 h0)
    simp [lm, this]; omega
  · have := ih (Nat.pos_of_ne_zero h0)
    obtain ⟨m, hm⟩ : ∃ m, (lim (n / BB)).length = m + 1 := ⟨(lim (n / BB)).length - 1, by rw [lim_pos (Nat.pos_of_ne_zero h0)]; simp⟩
    rw [List.length_cons, hm]
    rw [hm] at this
    simpa [lm] using this

set_option maxRecDepth 100000 in
set_option maxHeartbeats 1000000 in
theorem lbits_any (v : Value) (m : Nat) (w : World) (h : Nums w v (lim m)) (hlen : (lim m).length ≤ 100000000) :
    Calls Tryd.prog 11 #[v] w fun e w' => ∃ L : Nat, e = .returned (.int .i64 (L : Nat)) ∧ IsLen m L ∧ L ≤ 32 * (lim m).length ∧ Below w.heap.size w w' := by
  have HN := hide h
  clear h
  go_enter Tryd.func11, Tryd.ntmps11
  go_wp2_with fail
  refine (trim_any _ _ _ HN.out).mono ?_
  rintro e w2 ⟨v3, rfl, rfl, hN3, hcut⟩
  rw [val_lim] at hN3
  obtain ⟨_, a, cap, rfl, hl1, hm1, hc1⟩ := hN3
  unfold maxLen at hm1
  have HC := hide hc1
  clear hc1 hcut
  by_cases hz : m = 0
  · subst hz
    rw [lim_zero]
    go_wp2
    go_ret
    exact ⟨0, rfl, ⟨by decide, fun h => absurd h (by decide)⟩, Nat.zero_le _, Below.refl _ _⟩
  · have hp : 0 < (lim m).length := by rw [lim_pos (Nat.pos_of_ne_zero hz)]; simp
    have hlz : ((((lim m).length : Nat) : Int) == 0) = false := by rw [beq_eq_false_iff_ne]; omega
    have HT := hide (top_div (L := lim m) (n := (lim m).length - 1) (ok_lim m) (by omega))
    rw [val_lim] at HT
    have HTOP := hide (lim_last0 (Nat.pos_of_ne_zero hz))
    have HOK := hide (ok_lim m)
    clear hz
    generalize hLm : lim m = L at *
    have HLM := hide hLm
    clear hLm
    obtain ⟨b, off, rfl, hx⟩ := HC.out (ne_nil (k := L.length - 1) (by omega))
    have hxt := hx (L.length - 1) (by omega)
    have htb := HOK.out.at (L.length - 1)
    unfold BB at htb
    clear hx HC
    go_wp2_with fail
    refine (len32_any _ _ (by omega) (by omega)).mono ?_
    rintro e w3 ⟨N, rfl, hN, hNb, rfl⟩
    have HNN := hide hN
    clear hN
    go_wp2
    go_ret
    refine ⟨32 * (L.length - 1) + N, congrArg Ending.returned (congrArg (Value.int .i64) (by omega)), ?_, by first | omega | (rw [HLM.out]; omega), Below.refl _ _⟩
    have hL := HNN.out
    rw [show ((lm L (L.length - 1) : Nat) : Int).toNat = lm L (L.length - 1) from Int.toNat_natCast _, ← HT.out] at hL
    exact hL.shift (by rw [HT.out]; exact Nat.pos_of_ne_zero HTOP.out)

set_option maxRecDepth 100000 in
set_option maxHeartbeats 1000000 in
theorem ibits_any (v : Value) (z : Int) (w : World) (h : IntAt w v z) (hlen : (lim z.natAbs).length ≤ 100000000) :
    Calls Tryd.prog 29 #[v] w fun e w' => ∃ L : Nat, e = .returned (.int .i64 (L : Nat)) ∧ IsLen z.natAbs L ∧ L ≤ 32 * (lim z.natAbs).length ∧ Below w.heap.size w w' := by
  obtain ⟨b, n, a, c, rfl, hn, rfl, h0⟩ := h
  rw [sg_abs] at hlen ⊢
  have P0 := hide (Box.new w (.bool b) (.slice a (lim n).length c))
  have HB := hide (below_alloc w (.cells #[.bool b, .slice a (lim n).length c] 44))
  have HN := hide (hn.below HB.out)
  clear hn h0
  have p1 := P0.out.cell1
  go_enter Tryd.func29, Tryd.ntmps29
  go_wp2_with fail
  refine (lbits_any _ n _ HN.out hlen).mono ?_
  rintro e w1 ⟨L, rfl, hL, hLb, hb⟩
  have HL := hide (And.intro hL hLb)
  replace HB := hide (HB.out.trans (hb.mono HB.out.size))
  clear hL hLb hb p1
  go_wp2
  go_ret
  exact ⟨L, rfl, HL.out.1, HL.out.2, HB.out⟩

set_option maxRecDepth 100000 in
set_option maxHeartbeats 1000000 in
theorem rbitz_any (v : Value) (z : Int) (w : World) (h : RInt w v z) (hlen : (D.lim z.natAbs).length ≤ 100000000) :
    Calls Tryd.prog 30 #[v] w fun e w' => ∃ L : Nat, e = .returned (.int .i64 (L : Nat)) ∧ IsLen z.natAbs L ∧ L ≤ 16 * (D.lim z.natAbs).length ∧ Below w.heap.size w w' := by
  obtain ⟨b, n, a, c, rfl, hn, rfl, h0⟩ := h
  rw [sg_abs] at hlen ⊢
  have P0 := hide (Box2.new w 46 (.bool b) (.slice a (D.lim n).length c))
  have HB := hide (below_alloc w (.cells #[.bool b, .slice a (D.lim n).length c] 46))
  have HN := hide (hn.below HB.out)
  clear hn h0
  have p1 := P0.out.cell1
  go_enter Tryd.func30, Tryd.ntmps30
  go_wp2_with fail
  refine (rbits2_any _ n _ HN.out hlen).mono ?_
  rintro e w1 ⟨L, rfl, hL, hLb, rfl⟩
  have HL := hide (And.intro hL hLb)
  clear hL hLb p1
  go_wp2
  go_ret
  exact ⟨L, rfl, HL.out.1, HL.out.2, HB.out⟩
theorem IsLen.only {x L M : Nat} (h : IsLen x L) (k : IsLen x M) (hx : 0 < x) : L = M := by
  obtain ⟨h1, h2⟩ := h
  obtain ⟨k1, k2⟩ := k
  have h3 := (h2 hx)
  have k3 := (k2 hx)
  have a := (Nat.pow_lt_pow_iff_right (a := 2) (by decide)).1 (Nat.lt_of_le_of_lt h3.2 k1)
  have b := (Nat.pow_lt_pow_iff_right (a := 2) (by decide)).1 (Nat.lt_of_le_of_lt k3.2 h1)
  omega
end Go.Proofs.YtmibgcpafccliaaDoor
