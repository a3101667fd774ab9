/- integer.Int's DivMod: quotient and remainder, which is never below 0. -/
import Derived.Test.YtgkibmigbjjnnaaPtrC
import Derived.Test.YtgkibmigbjjnnaaDivAll
import Derived.Deep.Cut
namespace Go.Proofs.Ytgkibmigbjjnnaa
open Go.RowKit

theorem div_unique {x y q r : Int} (e : r + y * q = x) (h0 : 0 ≤ r) (h1 : r < y.natAbs) : x / y = q ∧ x % y = r := by
  by_cases hp : 0 < y
  · exact (Int.ediv_emod_unique hp).2 ⟨e, h0, by omega⟩
  · have h := (Int.ediv_emod_unique (a := x) (b := -y) (q := -q) (r := r) (by omega)).2 ⟨by rw [Int.neg_mul_neg]; exact e, h0, by omega⟩
    rw [Int.ediv_neg, Int.emod_neg] at h
    exact ⟨by omega, h.2⟩
theorem sg_split (b1 b2 : Bool) (n1 n2 : Nat) : sg b1 (n1 % n2) + sg b2 n2 * sg (b1 != b2) (n1 / n2) = sg b1 n1 := by
  rw [← sg_mul, show (b2 != (b1 != b2)) = b1 by cases b1 <;> cases b2 <;> rfl, ← sg_add, Nat.mod_add_div]
theorem div_plain (b1 b2 : Bool) (n1 n2 : Nat) (hy : 0 < n2) (hs : ¬ sg b1 (n1 % n2) < 0) : sg (b1 != b2) (n1 / n2) = sg b1 n1 / sg b2 n2 ∧ sg b1 (n1 % n2) = sg b1 n1 % sg b2 n2 := by
  have h := div_unique (y := sg b2 n2)  (sg_split b1 b2 n1 n2) (by omega) (by
    rw [sg_abs]; have := Nat.mod_lt n1 hy
    cases b1 <;> simp at * <;> omega)
  exact ⟨h.1.symm, h.2.symm⟩
theorem sgn_mul (y : Int) : y * sgnI y = y.natAbs := by
  unfold sgnI; split
  · omega
  · split <;> omega
theorem div_less (b1 b2 : Bool) (n1 n2 : Nat) (hy : 0 < n2) (hs : sg b1 (n1 % n2) < 0) : sg (b1 != b2) (n1 / n2) - sgnI (sg b2 n2) = sg b1 n1 / sg b2 n2 ∧ sg b1 (n1 % n2) + ((sg b2 n2).natAbs : Int) = sg b1 n1 % sg b2 n2 := by
  have hm := Nat.mod_lt n1 hy
  have h := div_unique (x := sg b1 n1) (y := sg b2 n2) (q := sg (b1 != b2) (n1 / n2) - sgnI (sg b2 n2)) (r := sg b1 (n1 % n2) + ((sg b2 n2).natAbs : Int)) 
    (by have := sg_split b1 b2 n1 n2; rw [Int.mul_sub, sgn_mul]; omega) (by rw [sg_abs]; cases b1 <;> simp at * <;> omega) (by rw [sg_abs]; omega)
  exact ⟨h.1.symm, h.2.symm⟩
theorem sgnI_lo (z : Int) : -9223372036854775808 ≤ sgnI z := by unfold sgnI; split; omega; split <;> omega
theorem sgnI_hi (z : Int) : sgnI z ≤ 9223372036854775807 := by unfold sgnI; split; omega; split <;> omega
theorem sgnI_len (z : Int) : (lim (sgnI z).natAbs).length ≤ 1000000000 := Nat.le_trans (lim_length_le (k := 1) (by unfold sgnI BB; split; decide; split <;> decide)) (by decide)
theorem lim_len_mono {m n : Nat} (h : m ≤ n) : (lim m).length ≤ (lim n).length := by
  rcases Nat.lt_or_ge (lim n).length (lim m).length with k | k
  · have := lim_len_lt k; omega
  · exact k

set_option maxRecDepth 100000 in
set_option maxHeartbeats 4000000 in
theorem idivmod_any (v1 v2 : Value) (x y : Int) (w : World) (h1 : IntAt w v1 x) (h2 : IntAt w v2 y) (l1 : (lim x.natAbs).length ≤ 1000000000) (l2 : (lim y.natAbs).length ≤ 1000000000) (hy : y ≠ 0) :
    Calls Try.prog 65 #[v1, v2] w fun e w' => ∃ q r, e = .returned (.tuple #[q, r, .int .i64 0]) ∧ IntAt w' q (x / y) ∧ IntAt w' r (x % y) ∧ Below w.heap.size w w' := by
  have Y2 := hide h2
  obtain ⟨b1, n1, a1, c1, rfl, hn1, rfl, h01⟩ := h1
  obtain ⟨b2, n2, a2, c2, rfl, hn2, rfl, h02⟩ := h2
  replace hy : 0 < n2 := by rcases Nat.eq_zero_or_pos n2 with h | h; exact absurd (by rw [h, sg_zero]) hy; exact h
  rw [sg_abs] at l1 l2
  have HE := hide (boxes4 w (.bool b1) (.slice a1 (lim n1).length c1) (.bool b2) (.slice a2 (lim n2).length c2) (.bool false) (.slice none 0 0) (.bool false) (.slice none 0 0) _ rfl)
  have HN1 := hide (hn1.below HE.out.2.2.2.2)
  have HN2 := hide (hn2.below HE.out.2.2.2.2)
  have LQ : Hid ((lim (sg (b1 != b2) (n1 / n2)).natAbs).length ≤ 1000000000) := hide (by rw [sg_abs]; exact Nat.le_trans (lim_len_mono (Nat.div_le_self _ _)) l1)
  have LR : Hid ((lim (sg b1 (n1 % n2)).natAbs).length ≤ 1000000000) := hide (by rw [sg_abs]; exact Nat.le_trans (lim_len_mono (Nat.mod_le _ _)) l1)
  clear hn1 h01 hn2 h02
  go_enter Try.func65, Try.ntmps65
  go_wp2_with fail
  refine (divmod_any _ _ (lim n1) (lim n2) _ HN1.out HN2.out l1 (by rw [val_lim]; exact hy)).mono ?_
  rintro e w1 ⟨lq, lr, rfl, nq, nr, hb⟩
  rw [val_lim, val_lim] at nq nr
  have HB := hide (HE.out.2.2.2.2.trans (hb.mono HE.out.2.2.2.2.size))
  have P0 := hide (HE.out.1.step hb)
  have P1 := hide (HE.out.2.1.step hb)
  have P2 := hide (HE.out.2.2.1.step hb)
  have P3 := hide (HE.out.2.2.2.1.step hb)
  have NQ := hide nq
  have NR := hide nr
  clear hb HE HN1 HN2 nq nr
  go_wp2_with fail
  go_cut [10, 11] from 26 (fun pt0 pt1 wx => ∃ gq sq mq kq cq gr sr mr kr cr, pt0 = .pointer (some ⟨gq, 0, none⟩) ∧ w1.heap.size ≤ gq ∧ Box wx gq (.bool sq) (.slice mq kq cq) ∧ IntAt wx (.agg #[.bool sq, .slice mq kq cq]) (sg (b1 != b2) (n1 / n2)) ∧ pt1 = .pointer (some ⟨gr, 0, none⟩) ∧ w1.heap.size ≤ gr ∧ Box wx gr (.bool sr) (.slice mr kr cr) ∧ IntAt wx (.agg #[.bool sr, .slice mr kr cr]) (sg b1 (n1 % n2)) ∧ gq ≠ gr ∧ Below w1.heap.size w1 wx)
  case first =>
    refine wp_facts (fun L T wq => Below w1.heap.size w1 wq ∧ T 2 = .pointer (some ⟨w.heap.size, 0, none⟩) ∧ T 3 = .pointer (some ⟨(w.heap.size + 1), 0, none⟩) ∧ T 7 = lq ∧ T 8 = lr ∧ (L 0 = true → T 26 = .pointer (some ⟨w.heap.size, 0, none⟩)) ∧ (L 1 = true → T 27 = .bool b1) ∧ (L 2 = true → T 28 = .pointer (some ⟨(w.heap.size + 1), 0, none⟩)) ∧ (L 3 = true → T 29 = .bool b2) ∧ (L 4 = true → T 30 = .bool (b1 != b2)) ∧ (L 5 = true → T 31 = lq) ∧ (L 7 = true → T 33 = .pointer (some ⟨w.heap.size, 0, none⟩)) ∧ (L 8 = true → T 34 = .bool b1) ∧ (L 9 = true → T 35 = lr) ∧ (L 6 = true → IntAt wq (T 32) (sg (b1 != b2) (n1 / n2))) ∧ (L 10 = true → IntAt wq (T 36) (sg b1 (n1 % n2))) ∧ (L 11 = true → PS w1.heap.size wq (T 10)) ∧ (L 11 = true → L 13 = false → PB w1.heap.size wq 25 (T 10) [.bool false, .slice none 0 0]) ∧ (L 12 = true → PS w1.heap.size wq (T 11)) ∧ (L 12 = true → L 14 = false → PB w1.heap.size wq 25 (T 11) [.bool false, .slice none 0 0]) ∧ (L 11 = true → L 12 = true → T 10 ≠ T 11) ∧ (L 13 = true → PV w1.heap.size wq 25 (T 10) (T 32)) ∧ (L 14 = true → PV w1.heap.size wq 25 (T 11) (T 36))) 51 [10, 11, 26, 27, 28, 29, 30, 31, 32, 33, 34, 35, 36] [0, 1, 2, 3, 4, 5, 6, 7, 8, 9, 10, 11, 12, 13, 14] (by kernel_rfl) (by kernel_rfl) (by kernel_rfl) (by kernel_rfl) ?_ ?_ ?_
    · exact ⟨(Below.refl w1.heap.size w1).drew, rfl, rfl, rfl, rfl, no_yet, no_yet, no_yet, no_yet, no_yet, no_yet, no_yet, no_yet, no_yet, no_yet, no_yet, no_yet, no_yet, no_yet, no_yet, no_yet, no_yet, no_yet⟩
    · intro i hi
      match i, hi with
      | 0, _ =>
        refine StepAt.of (need := []) (later := []) (k := 6) (d := some 26) rfl rfl (by kernel_rfl) (by kernel_rfl) ?_
        intro L T wq ev a he hL hN hM hJ next hnext
        have e2 := (he.tmp 2).trans hJ.2.1
        go_simp
        exact hnext _ _ ⟨hJ.1, hJ.2.1, hJ.2.2.1, hJ.2.2.2.1, hJ.2.2.2.2.1, fun _ => rfl, hJ.2.2.2.2.2.2.1, hJ.2.2.2.2.2.2.2.1, hJ.2.2.2.2.2.2.2.2.1, hJ.2.2.2.2.2.2.2.2.2.1, hJ.2.2.2.2.2.2.2.2.2.2.1, hJ.2.2.2.2.2.2.2.2.2.2.2.1, hJ.2.2.2.2.2.2.2.2.2.2.2.2.1, hJ.2.2.2.2.2.2.2.2.2.2.2.2.2.1, hJ.2.2.2.2.2.2.2.2.2.2.2.2.2.2.1, hJ.2.2.2.2.2.2.2.2.2.2.2.2.2.2.2.1, hJ.2.2.2.2.2.2.2.2.2.2.2.2.2.2.2.2.1, hJ.2.2.2.2.2.2.2.2.2.2.2.2.2.2.2.2.2.1, hJ.2.2.2.2.2.2.2.2.2.2.2.2.2.2.2.2.2.2.1, hJ.2.2.2.2.2.2.2.2.2.2.2.2.2.2.2.2.2.2.2.1, hJ.2.2.2.2.2.2.2.2.2.2.2.2.2.2.2.2.2.2.2.2.1, hJ.2.2.2.2.2.2.2.2.2.2.2.2.2.2.2.2.2.2.2.2.2.1, hJ.2.2.2.2.2.2.2.2.2.2.2.2.2.2.2.2.2.2.2.2.2.2⟩
      | 1, _ =>
        refine StepAt.of (need := [0]) (later := []) (k := 6) (d := some 27) rfl rfl (by kernel_rfl) (by kernel_rfl) ?_
        intro L T wq ev a he hL hN hM hJ next hnext
        have e26 := (he.tmp 26).trans (hJ.2.2.2.2.2.1 (hN.1))
        have hcl0 := ((P0.out).step hJ.1).cell0
        go_simp
        exact hnext _ _ ⟨hJ.1, hJ.2.1, hJ.2.2.1, hJ.2.2.2.1, hJ.2.2.2.2.1, hJ.2.2.2.2.2.1, fun _ => rfl, hJ.2.2.2.2.2.2.2.1, hJ.2.2.2.2.2.2.2.2.1, hJ.2.2.2.2.2.2.2.2.2.1, hJ.2.2.2.2.2.2.2.2.2.2.1, hJ.2.2.2.2.2.2.2.2.2.2.2.1, hJ.2.2.2.2.2.2.2.2.2.2.2.2.1, hJ.2.2.2.2.2.2.2.2.2.2.2.2.2.1, hJ.2.2.2.2.2.2.2.2.2.2.2.2.2.2.1, hJ.2.2.2.2.2.2.2.2.2.2.2.2.2.2.2.1, hJ.2.2.2.2.2.2.2.2.2.2.2.2.2.2.2.2.1, hJ.2.2.2.2.2.2.2.2.2.2.2.2.2.2.2.2.2.1, hJ.2.2.2.2.2.2.2.2.2.2.2.2.2.2.2.2.2.2.1, hJ.2.2.2.2.2.2.2.2.2.2.2.2.2.2.2.2.2.2.2.1, hJ.2.2.2.2.2.2.2.2.2.2.2.2.2.2.2.2.2.2.2.2.1, hJ.2.2.2.2.2.2.2.2.2.2.2.2.2.2.2.2.2.2.2.2.2.1, hJ.2.2.2.2.2.2.2.2.2.2.2.2.2.2.2.2.2.2.2.2.2.2⟩
      | 2, _ =>
        refine StepAt.of (need := []) (later := []) (k := 6) (d := some 28) rfl rfl (by kernel_rfl) (by kernel_rfl) ?_
        intro L T wq ev a he hL hN hM hJ next hnext
        have e3 := (he.tmp 3).trans hJ.2.2.1
        go_simp
        exact hnext _ _ ⟨hJ.1, hJ.2.1, hJ.2.2.1, hJ.2.2.2.1, hJ.2.2.2.2.1, hJ.2.2.2.2.2.1, hJ.2.2.2.2.2.2.1, fun _ => rfl, hJ.2.2.2.2.2.2.2.2.1, hJ.2.2.2.2.2.2.2.2.2.1, hJ.2.2.2.2.2.2.2.2.2.2.1, hJ.2.2.2.2.2.2.2.2.2.2.2.1, hJ.2.2.2.2.2.2.2.2.2.2.2.2.1, hJ.2.2.2.2.2.2.2.2.2.2.2.2.2.1, hJ.2.2.2.2.2.2.2.2.2.2.2.2.2.2.1, hJ.2.2.2.2.2.2.2.2.2.2.2.2.2.2.2.1, hJ.2.2.2.2.2.2.2.2.2.2.2.2.2.2.2.2.1, hJ.2.2.2.2.2.2.2.2.2.2.2.2.2.2.2.2.2.1, hJ.2.2.2.2.2.2.2.2.2.2.2.2.2.2.2.2.2.2.1, hJ.2.2.2.2.2.2.2.2.2.2.2.2.2.2.2.2.2.2.2.1, hJ.2.2.2.2.2.2.2.2.2.2.2.2.2.2.2.2.2.2.2.2.1, hJ.2.2.2.2.2.2.2.2.2.2.2.2.2.2.2.2.2.2.2.2.2.1, hJ.2.2.2.2.2.2.2.2.2.2.2.2.2.2.2.2.2.2.2.2.2.2⟩
      | 3, _ =>
        refine StepAt.of (need := [2]) (later := []) (k := 6) (d := some 29) rfl rfl (by kernel_rfl) (by kernel_rfl) ?_
        intro L T wq ev a he hL hN hM hJ next hnext
        have e28 := (he.tmp 28).trans (hJ.2.2.2.2.2.2.2.1 (hN.1))
        have hcl0 := ((P1.out).step hJ.1).cell0
        go_simp
        exact hnext _ _ ⟨hJ.1, hJ.2.1, hJ.2.2.1, hJ.2.2.2.1, hJ.2.2.2.2.1, hJ.2.2.2.2.2.1, hJ.2.2.2.2.2.2.1, hJ.2.2.2.2.2.2.2.1, fun _ => rfl, hJ.2.2.2.2.2.2.2.2.2.1, hJ.2.2.2.2.2.2.2.2.2.2.1, hJ.2.2.2.2.2.2.2.2.2.2.2.1, hJ.2.2.2.2.2.2.2.2.2.2.2.2.1, hJ.2.2.2.2.2.2.2.2.2.2.2.2.2.1, hJ.2.2.2.2.2.2.2.2.2.2.2.2.2.2.1, hJ.2.2.2.2.2.2.2.2.2.2.2.2.2.2.2.1, hJ.2.2.2.2.2.2.2.2.2.2.2.2.2.2.2.2.1, hJ.2.2.2.2.2.2.2.2.2.2.2.2.2.2.2.2.2.1, hJ.2.2.2.2.2.2.2.2.2.2.2.2.2.2.2.2.2.2.1, hJ.2.2.2.2.2.2.2.2.2.2.2.2.2.2.2.2.2.2.2.1, hJ.2.2.2.2.2.2.2.2.2.2.2.2.2.2.2.2.2.2.2.2.1, hJ.2.2.2.2.2.2.2.2.2.2.2.2.2.2.2.2.2.2.2.2.2.1, hJ.2.2.2.2.2.2.2.2.2.2.2.2.2.2.2.2.2.2.2.2.2.2⟩
      | 4, _ =>
        refine StepAt.of (need := [1, 3]) (later := []) (k := 6) (d := some 30) rfl rfl (by kernel_rfl) (by kernel_rfl) ?_
        intro L T wq ev a he hL hN hM hJ next hnext
        have e27 := (he.tmp 27).trans (hJ.2.2.2.2.2.2.1 (hN.1))
        have e29 := (he.tmp 29).trans (hJ.2.2.2.2.2.2.2.2.1 (hN.2.1))
        go_simp
        exact hnext _ _ ⟨hJ.1, hJ.2.1, hJ.2.2.1, hJ.2.2.2.1, hJ.2.2.2.2.1, hJ.2.2.2.2.2.1, hJ.2.2.2.2.2.2.1, hJ.2.2.2.2.2.2.2.1, hJ.2.2.2.2.2.2.2.2.1, fun _ => rfl, hJ.2.2.2.2.2.2.2.2.2.2.1, hJ.2.2.2.2.2.2.2.2.2.2.2.1, hJ.2.2.2.2.2.2.2.2.2.2.2.2.1, hJ.2.2.2.2.2.2.2.2.2.2.2.2.2.1, hJ.2.2.2.2.2.2.2.2.2.2.2.2.2.2.1, hJ.2.2.2.2.2.2.2.2.2.2.2.2.2.2.2.1, hJ.2.2.2.2.2.2.2.2.2.2.2.2.2.2.2.2.1, hJ.2.2.2.2.2.2.2.2.2.2.2.2.2.2.2.2.2.1, hJ.2.2.2.2.2.2.2.2.2.2.2.2.2.2.2.2.2.2.1, hJ.2.2.2.2.2.2.2.2.2.2.2.2.2.2.2.2.2.2.2.1, hJ.2.2.2.2.2.2.2.2.2.2.2.2.2.2.2.2.2.2.2.2.1, hJ.2.2.2.2.2.2.2.2.2.2.2.2.2.2.2.2.2.2.2.2.2.1, hJ.2.2.2.2.2.2.2.2.2.2.2.2.2.2.2.2.2.2.2.2.2.2⟩
      | 5, _ =>
        refine StepAt.of (need := []) (later := []) (k := 6) (d := some 31) rfl rfl (by kernel_rfl) (by kernel_rfl) ?_
        intro L T wq ev a he hL hN hM hJ next hnext
        have e7 := (he.tmp 7).trans hJ.2.2.2.1
        go_simp
        exact hnext _ _ ⟨hJ.1, hJ.2.1, hJ.2.2.1, hJ.2.2.2.1, hJ.2.2.2.2.1, hJ.2.2.2.2.2.1, hJ.2.2.2.2.2.2.1, hJ.2.2.2.2.2.2.2.1, hJ.2.2.2.2.2.2.2.2.1, hJ.2.2.2.2.2.2.2.2.2.1, fun _ => rfl, hJ.2.2.2.2.2.2.2.2.2.2.2.1, hJ.2.2.2.2.2.2.2.2.2.2.2.2.1, hJ.2.2.2.2.2.2.2.2.2.2.2.2.2.1, hJ.2.2.2.2.2.2.2.2.2.2.2.2.2.2.1, hJ.2.2.2.2.2.2.2.2.2.2.2.2.2.2.2.1, hJ.2.2.2.2.2.2.2.2.2.2.2.2.2.2.2.2.1, hJ.2.2.2.2.2.2.2.2.2.2.2.2.2.2.2.2.2.1, hJ.2.2.2.2.2.2.2.2.2.2.2.2.2.2.2.2.2.2.1, hJ.2.2.2.2.2.2.2.2.2.2.2.2.2.2.2.2.2.2.2.1, hJ.2.2.2.2.2.2.2.2.2.2.2.2.2.2.2.2.2.2.2.2.1, hJ.2.2.2.2.2.2.2.2.2.2.2.2.2.2.2.2.2.2.2.2.2.1, hJ.2.2.2.2.2.2.2.2.2.2.2.2.2.2.2.2.2.2.2.2.2.2⟩
      | 6, _ =>
        refine StepAt.of (need := [4, 5]) (later := [13]) (k := 6) (d := some 32) rfl rfl (by kernel_rfl) (by kernel_rfl) ?_
        intro L T wq ev a he hL hN hM hJ next hnext
        have e30 := (he.tmp 30).trans (hJ.2.2.2.2.2.2.2.2.2.1 (hN.1))
        have e31 := (he.tmp 31).trans (hJ.2.2.2.2.2.2.2.2.2.2.1 (hN.2.1))
        have ef := he.func
        go_simp
        refine (made_any _ (n1 / n2) _ _ (NQ.out.below hJ.1)).mono ?_
        rintro e wq' ⟨v, rfl, i, hb⟩
        exact hnext _ _ ⟨hJ.1.trans ((hb).mono hJ.1.size), hJ.2.1, hJ.2.2.1, hJ.2.2.2.1, hJ.2.2.2.2.1, hJ.2.2.2.2.2.1, hJ.2.2.2.2.2.2.1, hJ.2.2.2.2.2.2.2.1, hJ.2.2.2.2.2.2.2.2.1, hJ.2.2.2.2.2.2.2.2.2.1, hJ.2.2.2.2.2.2.2.2.2.2.1, hJ.2.2.2.2.2.2.2.2.2.2.2.1, hJ.2.2.2.2.2.2.2.2.2.2.2.2.1, hJ.2.2.2.2.2.2.2.2.2.2.2.2.2.1, fun _ => i, fun h => (hJ.2.2.2.2.2.2.2.2.2.2.2.2.2.2.2.1 h).below (hb), fun h => (hJ.2.2.2.2.2.2.2.2.2.2.2.2.2.2.2.2.1 h).step (hb), fun h h' => (hJ.2.2.2.2.2.2.2.2.2.2.2.2.2.2.2.2.2.1 h h').step (hb), fun h => (hJ.2.2.2.2.2.2.2.2.2.2.2.2.2.2.2.2.2.2.1 h).step (hb), fun h h' => (hJ.2.2.2.2.2.2.2.2.2.2.2.2.2.2.2.2.2.2.2.1 h h').step (hb), hJ.2.2.2.2.2.2.2.2.2.2.2.2.2.2.2.2.2.2.2.2.1, fun h => clash (hM.1) h, fun h => (hJ.2.2.2.2.2.2.2.2.2.2.2.2.2.2.2.2.2.2.2.2.2.2 h).step (hb)⟩
      | 7, _ =>
        refine StepAt.of (need := []) (later := []) (k := 6) (d := some 33) rfl rfl (by kernel_rfl) (by kernel_rfl) ?_
        intro L T wq ev a he hL hN hM hJ next hnext
        have e2 := (he.tmp 2).trans hJ.2.1
        go_simp
        exact hnext _ _ ⟨hJ.1, hJ.2.1, hJ.2.2.1, hJ.2.2.2.1, hJ.2.2.2.2.1, hJ.2.2.2.2.2.1, hJ.2.2.2.2.2.2.1, hJ.2.2.2.2.2.2.2.1, hJ.2.2.2.2.2.2.2.2.1, hJ.2.2.2.2.2.2.2.2.2.1, hJ.2.2.2.2.2.2.2.2.2.2.1, fun _ => rfl, hJ.2.2.2.2.2.2.2.2.2.2.2.2.1, hJ.2.2.2.2.2.2.2.2.2.2.2.2.2.1, hJ.2.2.2.2.2.2.2.2.2.2.2.2.2.2.1, hJ.2.2.2.2.2.2.2.2.2.2.2.2.2.2.2.1, hJ.2.2.2.2.2.2.2.2.2.2.2.2.2.2.2.2.1, hJ.2.2.2.2.2.2.2.2.2.2.2.2.2.2.2.2.2.1, hJ.2.2.2.2.2.2.2.2.2.2.2.2.2.2.2.2.2.2.1, hJ.2.2.2.2.2.2.2.2.2.2.2.2.2.2.2.2.2.2.2.1, hJ.2.2.2.2.2.2.2.2.2.2.2.2.2.2.2.2.2.2.2.2.1, hJ.2.2.2.2.2.2.2.2.2.2.2.2.2.2.2.2.2.2.2.2.2.1, hJ.2.2.2.2.2.2.2.2.2.2.2.2.2.2.2.2.2.2.2.2.2.2⟩
      | 8, _ =>
        refine StepAt.of (need := [7]) (later := []) (k := 6) (d := some 34) rfl rfl (by kernel_rfl) (by kernel_rfl) ?_
        intro L T wq ev a he hL hN hM hJ next hnext
        have e33 := (he.tmp 33).trans (hJ.2.2.2.2.2.2.2.2.2.2.2.1 (hN.1))
        have hcl0 := ((P0.out).step hJ.1).cell0
        go_simp
        exact hnext _ _ ⟨hJ.1, hJ.2.1, hJ.2.2.1, hJ.2.2.2.1, hJ.2.2.2.2.1, hJ.2.2.2.2.2.1, hJ.2.2.2.2.2.2.1, hJ.2.2.2.2.2.2.2.1, hJ.2.2.2.2.2.2.2.2.1, hJ.2.2.2.2.2.2.2.2.2.1, hJ.2.2.2.2.2.2.2.2.2.2.1, hJ.2.2.2.2.2.2.2.2.2.2.2.1, fun _ => rfl, hJ.2.2.2.2.2.2.2.2.2.2.2.2.2.1, hJ.2.2.2.2.2.2.2.2.2.2.2.2.2.2.1, hJ.2.2.2.2.2.2.2.2.2.2.2.2.2.2.2.1, hJ.2.2.2.2.2.2.2.2.2.2.2.2.2.2.2.2.1, hJ.2.2.2.2.2.2.2.2.2.2.2.2.2.2.2.2.2.1, hJ.2.2.2.2.2.2.2.2.2.2.2.2.2.2.2.2.2.2.1, hJ.2.2.2.2.2.2.2.2.2.2.2.2.2.2.2.2.2.2.2.1, hJ.2.2.2.2.2.2.2.2.2.2.2.2.2.2.2.2.2.2.2.2.1, hJ.2.2.2.2.2.2.2.2.2.2.2.2.2.2.2.2.2.2.2.2.2.1, hJ.2.2.2.2.2.2.2.2.2.2.2.2.2.2.2.2.2.2.2.2.2.2⟩
      | 9, _ =>
        refine StepAt.of (need := []) (later := []) (k := 6) (d := some 35) rfl rfl (by kernel_rfl) (by kernel_rfl) ?_
        intro L T wq ev a he hL hN hM hJ next hnext
        have e8 := (he.tmp 8).trans hJ.2.2.2.2.1
        go_simp
        exact hnext _ _ ⟨hJ.1, hJ.2.1, hJ.2.2.1, hJ.2.2.2.1, hJ.2.2.2.2.1, hJ.2.2.2.2.2.1, hJ.2.2.2.2.2.2.1, hJ.2.2.2.2.2.2.2.1, hJ.2.2.2.2.2.2.2.2.1, hJ.2.2.2.2.2.2.2.2.2.1, hJ.2.2.2.2.2.2.2.2.2.2.1, hJ.2.2.2.2.2.2.2.2.2.2.2.1, hJ.2.2.2.2.2.2.2.2.2.2.2.2.1, fun _ => rfl, hJ.2.2.2.2.2.2.2.2.2.2.2.2.2.2.1, hJ.2.2.2.2.2.2.2.2.2.2.2.2.2.2.2.1, hJ.2.2.2.2.2.2.2.2.2.2.2.2.2.2.2.2.1, hJ.2.2.2.2.2.2.2.2.2.2.2.2.2.2.2.2.2.1, hJ.2.2.2.2.2.2.2.2.2.2.2.2.2.2.2.2.2.2.1, hJ.2.2.2.2.2.2.2.2.2.2.2.2.2.2.2.2.2.2.2.1, hJ.2.2.2.2.2.2.2.2.2.2.2.2.2.2.2.2.2.2.2.2.1, hJ.2.2.2.2.2.2.2.2.2.2.2.2.2.2.2.2.2.2.2.2.2.1, hJ.2.2.2.2.2.2.2.2.2.2.2.2.2.2.2.2.2.2.2.2.2.2⟩
      | 10, _ =>
        refine StepAt.of (need := [8, 9]) (later := [14]) (k := 6) (d := some 36) rfl rfl (by kernel_rfl) (by kernel_rfl) ?_
        intro L T wq ev a he hL hN hM hJ next hnext
        have e34 := (he.tmp 34).trans (hJ.2.2.2.2.2.2.2.2.2.2.2.2.1 (hN.1))
        have e35 := (he.tmp 35).trans (hJ.2.2.2.2.2.2.2.2.2.2.2.2.2.1 (hN.2.1))
        have ef := he.func
        go_simp
        refine (made_any _ (n1 % n2) _ _ (NR.out.below hJ.1)).mono ?_
        rintro e wq' ⟨v, rfl, i, hb⟩
        exact hnext _ _ ⟨hJ.1.trans ((hb).mono hJ.1.size), hJ.2.1, hJ.2.2.1, hJ.2.2.2.1, hJ.2.2.2.2.1, hJ.2.2.2.2.2.1, hJ.2.2.2.2.2.2.1, hJ.2.2.2.2.2.2.2.1, hJ.2.2.2.2.2.2.2.2.1, hJ.2.2.2.2.2.2.2.2.2.1, hJ.2.2.2.2.2.2.2.2.2.2.1, hJ.2.2.2.2.2.2.2.2.2.2.2.1, hJ.2.2.2.2.2.2.2.2.2.2.2.2.1, hJ.2.2.2.2.2.2.2.2.2.2.2.2.2.1, fun h => (hJ.2.2.2.2.2.2.2.2.2.2.2.2.2.2.1 h).below (hb), fun _ => i, fun h => (hJ.2.2.2.2.2.2.2.2.2.2.2.2.2.2.2.2.1 h).step (hb), fun h h' => (hJ.2.2.2.2.2.2.2.2.2.2.2.2.2.2.2.2.2.1 h h').step (hb), fun h => (hJ.2.2.2.2.2.2.2.2.2.2.2.2.2.2.2.2.2.2.1 h).step (hb), fun h h' => (hJ.2.2.2.2.2.2.2.2.2.2.2.2.2.2.2.2.2.2.2.1 h h').step (hb), hJ.2.2.2.2.2.2.2.2.2.2.2.2.2.2.2.2.2.2.2.2.1, fun h => (hJ.2.2.2.2.2.2.2.2.2.2.2.2.2.2.2.2.2.2.2.2.2.1 h).step (hb), fun h => clash (hM.1) h⟩
      | 11, _ =>
        refine StepAt.of (need := []) (later := [13]) (k := 6) (d := some 10) rfl rfl (by kernel_rfl) (by kernel_rfl) ?_
        intro L T wq ev a he hL hN hM hJ next hnext
        go_simp
        have hb := below_alloc wq (.cells #[.bool false, .slice none 0 0] 25)
        exact hnext _ _ ⟨hJ.1.trans ((hb).mono hJ.1.size), hJ.2.1, hJ.2.2.1, hJ.2.2.2.1, hJ.2.2.2.2.1, hJ.2.2.2.2.2.1, hJ.2.2.2.2.2.2.1, hJ.2.2.2.2.2.2.2.1, hJ.2.2.2.2.2.2.2.2.1, hJ.2.2.2.2.2.2.2.2.2.1, hJ.2.2.2.2.2.2.2.2.2.2.1, hJ.2.2.2.2.2.2.2.2.2.2.2.1, hJ.2.2.2.2.2.2.2.2.2.2.2.2.1, hJ.2.2.2.2.2.2.2.2.2.2.2.2.2.1, fun h => (hJ.2.2.2.2.2.2.2.2.2.2.2.2.2.2.1 h).below (hb), fun h => (hJ.2.2.2.2.2.2.2.2.2.2.2.2.2.2.2.1 h).below (hb), fun _ => PS.new hJ.1.size _, fun _ _ => PB.new hJ.1.size _ [.bool false, .slice none 0 0], fun h => (hJ.2.2.2.2.2.2.2.2.2.2.2.2.2.2.2.2.2.2.1 h).step (hb), fun h h' => (hJ.2.2.2.2.2.2.2.2.2.2.2.2.2.2.2.2.2.2.2.1 h h').step (hb), fun _ h => Ne.symm (hJ.2.2.2.2.2.2.2.2.2.2.2.2.2.2.2.2.2.2.1 h).ne, fun h => clash (hM.1) h, fun h => (hJ.2.2.2.2.2.2.2.2.2.2.2.2.2.2.2.2.2.2.2.2.2.2 h).step (hb)⟩
      | 12, _ =>
        refine StepAt.of (need := []) (later := [14]) (k := 6) (d := some 11) rfl rfl (by kernel_rfl) (by kernel_rfl) ?_
        intro L T wq ev a he hL hN hM hJ next hnext
        go_simp
        have hb := below_alloc wq (.cells #[.bool false, .slice none 0 0] 25)
        exact hnext _ _ ⟨hJ.1.trans ((hb).mono hJ.1.size), hJ.2.1, hJ.2.2.1, hJ.2.2.2.1, hJ.2.2.2.2.1, hJ.2.2.2.2.2.1, hJ.2.2.2.2.2.2.1, hJ.2.2.2.2.2.2.2.1, hJ.2.2.2.2.2.2.2.2.1, hJ.2.2.2.2.2.2.2.2.2.1, hJ.2.2.2.2.2.2.2.2.2.2.1, hJ.2.2.2.2.2.2.2.2.2.2.2.1, hJ.2.2.2.2.2.2.2.2.2.2.2.2.1, hJ.2.2.2.2.2.2.2.2.2.2.2.2.2.1, fun h => (hJ.2.2.2.2.2.2.2.2.2.2.2.2.2.2.1 h).below (hb), fun h => (hJ.2.2.2.2.2.2.2.2.2.2.2.2.2.2.2.1 h).below (hb), fun h => (hJ.2.2.2.2.2.2.2.2.2.2.2.2.2.2.2.2.1 h).step (hb), fun h h' => (hJ.2.2.2.2.2.2.2.2.2.2.2.2.2.2.2.2.2.1 h h').step (hb), fun _ => PS.new hJ.1.size _, fun _ _ => PB.new hJ.1.size _ [.bool false, .slice none 0 0], fun h _ => (hJ.2.2.2.2.2.2.2.2.2.2.2.2.2.2.2.2.1 h).ne, fun h => (hJ.2.2.2.2.2.2.2.2.2.2.2.2.2.2.2.2.2.2.2.2.2.1 h).step (hb), fun h => clash (hM.1) h⟩
      | 13, _ =>
        refine StepAt.of (need := [11, 6, 12]) (later := []) (k := 6) (d := none) rfl rfl (by kernel_rfl) (by kernel_rfl) ?_
        intro L T wq ev a he hL hN hM hJ next hnext
        obtain ⟨g, hg, hge, hbx⟩ := hJ.2.2.2.2.2.2.2.2.2.2.2.2.2.2.2.2.2.1 (hN.1) hL
        obtain ⟨sv, mv, nv, cv, hv, iv⟩ := (hJ.2.2.2.2.2.2.2.2.2.2.2.2.2.2.1 (hN.2.1)).cells
        have e10 := (he.tmp 10).trans hg
        have e32 := (he.tmp 32).trans hv
        have hc0 := hbx.cell 0 rfl
        have hf0 := hbx.free 0
        have hc1 := hbx.cell 1 rfl
        have hf1 := hbx.free 1
        have hk := keeps_all hbx (by intro c hc z e; subst e; simp at hc) [.bool sv, .slice mv nv cv] rfl
        go_simp
        exact hnext undef _ ⟨below_all hge [.bool sv, .slice mv nv cv] 0 _ hJ.1, hJ.2.1, hJ.2.2.1, hJ.2.2.2.1, hJ.2.2.2.2.1, hJ.2.2.2.2.2.1, hJ.2.2.2.2.2.2.1, hJ.2.2.2.2.2.2.2.1, hJ.2.2.2.2.2.2.2.2.1, hJ.2.2.2.2.2.2.2.2.2.1, hJ.2.2.2.2.2.2.2.2.2.2.1, hJ.2.2.2.2.2.2.2.2.2.2.2.1, hJ.2.2.2.2.2.2.2.2.2.2.2.2.1, hJ.2.2.2.2.2.2.2.2.2.2.2.2.2.1, fun h => (hJ.2.2.2.2.2.2.2.2.2.2.2.2.2.2.1 h).keep hk, fun h => (hJ.2.2.2.2.2.2.2.2.2.2.2.2.2.2.2.1 h).keep hk, fun h => (hJ.2.2.2.2.2.2.2.2.2.2.2.2.2.2.2.2.1 h).put [.bool sv, .slice mv nv cv], fun _ h => no_more h, fun h => (hJ.2.2.2.2.2.2.2.2.2.2.2.2.2.2.2.2.2.2.1 h).put [.bool sv, .slice mv nv cv], fun h h' => (hJ.2.2.2.2.2.2.2.2.2.2.2.2.2.2.2.2.2.2.2.1 h h').put hg (hJ.2.2.2.2.2.2.2.2.2.2.2.2.2.2.2.2.2.2.2.2.1 (hN.1) (hN.2.2.1)) [.bool sv, .slice mv nv cv], hJ.2.2.2.2.2.2.2.2.2.2.2.2.2.2.2.2.2.2.2.2.1, fun _ => PV.set' [.bool sv, .slice mv nv cv] hg hv hbx hge rfl, fun h => (hJ.2.2.2.2.2.2.2.2.2.2.2.2.2.2.2.2.2.2.2.2.2.2 h).put hg (hJ.2.2.2.2.2.2.2.2.2.2.2.2.2.2.2.2.2.2.2.2.1 (hN.1) (hN.2.2.1)) [.bool sv, .slice mv nv cv]⟩
      | 14, _ =>
        refine StepAt.of (need := [12, 10, 11]) (later := []) (k := 6) (d := none) rfl rfl (by kernel_rfl) (by kernel_rfl) ?_
        intro L T wq ev a he hL hN hM hJ next hnext
        obtain ⟨g, hg, hge, hbx⟩ := hJ.2.2.2.2.2.2.2.2.2.2.2.2.2.2.2.2.2.2.2.1 (hN.1) hL
        obtain ⟨sv, mv, nv, cv, hv, iv⟩ := (hJ.2.2.2.2.2.2.2.2.2.2.2.2.2.2.2.1 (hN.2.1)).cells
        have e11 := (he.tmp 11).trans hg
        have e36 := (he.tmp 36).trans hv
        have hc0 := hbx.cell 0 rfl
        have hf0 := hbx.free 0
        have hc1 := hbx.cell 1 rfl
        have hf1 := hbx.free 1
        have hk := keeps_all hbx (by intro c hc z e; subst e; simp at hc) [.bool sv, .slice mv nv cv] rfl
        go_simp
        exact hnext undef _ ⟨below_all hge [.bool sv, .slice mv nv cv] 0 _ hJ.1, hJ.2.1, hJ.2.2.1, hJ.2.2.2.1, hJ.2.2.2.2.1, hJ.2.2.2.2.2.1, hJ.2.2.2.2.2.2.1, hJ.2.2.2.2.2.2.2.1, hJ.2.2.2.2.2.2.2.2.1, hJ.2.2.2.2.2.2.2.2.2.1, hJ.2.2.2.2.2.2.2.2.2.2.1, hJ.2.2.2.2.2.2.2.2.2.2.2.1, hJ.2.2.2.2.2.2.2.2.2.2.2.2.1, hJ.2.2.2.2.2.2.2.2.2.2.2.2.2.1, fun h => (hJ.2.2.2.2.2.2.2.2.2.2.2.2.2.2.1 h).keep hk, fun h => (hJ.2.2.2.2.2.2.2.2.2.2.2.2.2.2.2.1 h).keep hk, fun h => (hJ.2.2.2.2.2.2.2.2.2.2.2.2.2.2.2.2.1 h).put [.bool sv, .slice mv nv cv], fun h h' => (hJ.2.2.2.2.2.2.2.2.2.2.2.2.2.2.2.2.2.1 h h').put hg (Ne.symm (hJ.2.2.2.2.2.2.2.2.2.2.2.2.2.2.2.2.2.2.2.2.1 (hN.2.2.1) (hN.1))) [.bool sv, .slice mv nv cv], fun h => (hJ.2.2.2.2.2.2.2.2.2.2.2.2.2.2.2.2.2.2.1 h).put [.bool sv, .slice mv nv cv], fun _ h => no_more h, hJ.2.2.2.2.2.2.2.2.2.2.2.2.2.2.2.2.2.2.2.2.1, fun h => (hJ.2.2.2.2.2.2.2.2.2.2.2.2.2.2.2.2.2.2.2.2.2.1 h).put hg (Ne.symm (hJ.2.2.2.2.2.2.2.2.2.2.2.2.2.2.2.2.2.2.2.2.1 (hN.2.2.1) (hN.1))) [.bool sv, .slice mv nv cv], fun _ => PV.set' [.bool sv, .slice mv nv cv] hg hv hbx hge rfl⟩
      | k + 15, hi => exact absurd hi (Nat.not_lt.2 (Nat.le_add_left 15 k))
    · intro L a wq hA hJ hs hd hf
      obtain ⟨gq, cs0, hp0, hge0, hv0, hb0⟩ := hJ.2.2.2.2.2.2.2.2.2.2.2.2.2.2.2.2.2.2.2.2.2.1 (hA.2.2.2.2.2.2.2.2.2.2.2.2.2.1)
      have i0 := hJ.2.2.2.2.2.2.2.2.2.2.2.2.2.2.1 (hA.2.2.2.2.2.2.1)
      obtain ⟨sq, mq, kq, cq, hq0, i0⟩ := i0.cells
      rw [hq0, Value.agg.injEq] at hv0
      have hl0 : cs0 = _ := congrArg Array.toList hv0.symm
      subst hl0
      obtain ⟨gr, cs1, hp1, hge1, hv1, hb1⟩ := hJ.2.2.2.2.2.2.2.2.2.2.2.2.2.2.2.2.2.2.2.2.2.2 (hA.2.2.2.2.2.2.2.2.2.2.2.2.2.2.1)
      have i1 := hJ.2.2.2.2.2.2.2.2.2.2.2.2.2.2.2.1 (hA.2.2.2.2.2.2.2.2.2.2.1)
      obtain ⟨sr, mr, kr, cr, hq1, i1⟩ := i1.cells
      rw [hq1, Value.agg.injEq] at hv1
      have hl1 : cs1 = _ := congrArg Array.toList hv1.symm
      subst hl1
      have hne0_1 : gq ≠ gr := fun e => hJ.2.2.2.2.2.2.2.2.2.2.2.2.2.2.2.2.2.2.2.2.1 (hA.2.2.2.2.2.2.2.2.2.2.2.1) (hA.2.2.2.2.2.2.2.2.2.2.2.2.1) (hp0.trans (e ▸ hp1.symm))
      refine (by assumption : ∀ a' w', Met _ a' w' → _) _ _ (Met.intro ((by assumption : ∀ a' w', _ → _) _ _ ?_))
      exact ⟨a.tmps.getD 10 undef, a.tmps.getD 11 undef, a.tmps.getD 26 undef, a.tmps.getD 27 undef, a.tmps.getD 28 undef, a.tmps.getD 29 undef, a.tmps.getD 30 undef, a.tmps.getD 31 undef, a.tmps.getD 32 undef, a.tmps.getD 33 undef, a.tmps.getD 34 undef, a.tmps.getD 35 undef, a.tmps.getD 36 undef, a.tmps.getD 37 undef, a.tmps.getD 38 undef, a.tmps.getD 39 undef, a.tmps.getD 40 undef, a.tmps.getD 41 undef, a.tmps.getD 42 undef, a.tmps.getD 43 undef, a.tmps.getD 44 undef, a.tmps.getD 45 undef, a.tmps.getD 46 undef, a.tmps.getD 47 undef, a.tmps.getD 48 undef, a.tmps.getD 49 undef, a.tmps.getD 50 undef, ⟨gq, sq, mq, kq, cq, gr, sr, mr, kr, cr, hp0, hge0, hb0, i0, hp1, hge1, hb1, i1, hne0_1, hJ.1⟩, act_eq _ _ [10, 11, 26, 27, 28, 29, 30, 31, 32, 33, 34, 35, 36, 37, 38, 39, 40, 41, 42, 43, 44, 45, 46, 47, 48, 49, 50] hf (by kernel_rfl) (hs.trans (by kernel_rfl)) hd (by kernel_rfl)⟩
  case rest =>
  obtain ⟨gq, sq, mq, kq, cq, gr, sr, mr, kr, cr, rfl, hge0, hbx0, hi0, rfl, hge1, hbx1, hi1, hne0_1, hb⟩ := hcut
  have LTS : Hid (w.heap.size < gq ∧ (w.heap.size + 1) < gq ∧ (w.heap.size + 1 + 1) < gq ∧ (w.heap.size + 1 + 1 + 1) < gq ∧ w.heap.size < gr ∧ (w.heap.size + 1) < gr ∧ (w.heap.size + 1 + 1) < gr ∧ (w.heap.size + 1 + 1 + 1) < gr ∧ gq ≠ gr) := hide ⟨Nat.lt_of_lt_of_le P0.out.lt hge0, Nat.lt_of_lt_of_le P1.out.lt hge0, Nat.lt_of_lt_of_le P2.out.lt hge0, Nat.lt_of_lt_of_le P3.out.lt hge0, Nat.lt_of_lt_of_le P0.out.lt hge1, Nat.lt_of_lt_of_le P1.out.lt hge1, Nat.lt_of_lt_of_le P2.out.lt hge1, Nat.lt_of_lt_of_le P3.out.lt hge1, hne0_1⟩
  replace HB := hide (HB.out.trans (hb.mono HB.out.size))
  replace P0 := hide (P0.out.step hb)
  replace P1 := hide (P1.out.step hb)
  replace P2 := hide (P2.out.step hb)
  replace P3 := hide (P3.out.step hb)
  have PQ := hide hbx0
  have PR := hide hbx1
  have IQ := hide hi0
  have IR := hide hi1
  clear NQ NR hge0 hge1 hbx0 hbx1 hi0 hi1 hne0_1 hb
  generalize hwc : wc = w5 at *
  clear hwc
  have r0 := PR.out.cell0
  have r1 := PR.out.cell1
  go_wp2_with fail
  clear r0 r1
  refine (isign_any _ (sg b1 (n1 % n2)) _ IR.out).mono ?_
  rintro e w6 ⟨rfl, hb⟩
  replace HB := hide (HB.out.trans (hb.mono HB.out.size))
  replace IQ := hide (IQ.out.below hb)
  replace IR := hide (IR.out.below hb)
  replace P0 := hide (P0.out.step hb)
  replace P1 := hide (P1.out.step hb)
  replace P2 := hide (P2.out.step hb)
  replace P3 := hide (P3.out.step hb)
  replace PQ := hide (PQ.out.step hb)
  replace PR := hide (PR.out.step hb)
  clear hb
  by_cases hs : (sg b1 (n1 % n2)) < 0
  · have SG : sgnI (sg b1 (n1 % n2)) = -1 := if_pos hs
    rw [SG]
    clear SG
    have HS := hide hs
    clear hs
    go_wp2_with fail
    replace P2 := hide P2.out.drew
    replace P3 := hide P3.out.drew
    refine wp_calm (fun w' => Below w.heap.size w w' ∧ Box w' w.heap.size (.bool b1) (.slice a1 (lim n1).length c1) ∧ Box w' (w.heap.size + 1) (.bool b2) (.slice a2 (lim n2).length c2) ∧ Box w' gq (.bool sq) (.slice mq kq cq) ∧ Box w' gr (.bool sr) (.slice mr kr cr) ∧ IntAt w' (.agg #[.bool sq, .slice mq kq cq]) (sg (b1 != b2) (n1 / n2)) ∧ IntAt w' (.agg #[.bool sr, .slice mr kr cr]) (sg b1 (n1 % n2)) ∧ IntAt w' (.agg #[.bool b2, .slice a2 (lim n2).length c2]) (sg b2 n2)) (fun _ => true) 12 #[false, false, false, false, false, false, false, false, false, false, false, false] (by kernel_rfl) rfl rfl ?_
    have HF := hide (And.intro (HB.out.drew) (And.intro (P0.out.drew) (And.intro (P1.out.drew) (And.intro (PQ.out.drew) (And.intro (PR.out.drew) (And.intro (IQ.out.drew) (And.intro (IR.out.drew) ((Y2.out.below HB.out).drew))))))))
    generalize w6.drew = w6d at *
    refine Calm.take (i := 0) (v := ?_) (a' := ?_) (l' := #[true, false, false, false, false, false, false, false, false, false, false, false]) (d := some 40) rfl (by kernel_rfl) (by kernel_rfl) (by kernel_rfl) (by kernel_rfl) (fun _ _ _ h => h) HF.out rfl ?_ rfl rfl ?_ ?_
    rotate_left
    · intro w' hF; have f10 := hF.2.1.cell0; have f11 := hF.2.1.cell1; have f20 := hF.2.2.1.cell0; have f21 := hF.2.2.1.cell1; have f30 := hF.2.2.2.1.cell0; have f31 := hF.2.2.2.1.cell1; have f40 := hF.2.2.2.2.1.cell0; have f41 := hF.2.2.2.2.1.cell1; clear hF; go_simp; try rfl
    rotate_left
    · simp only [Act.put]; exact rfl
    refine Calm.take (i := 1) (v := ?_) (a' := ?_) (l' := #[true, true, false, false, false, false, false, false, false, false, false, false]) (d := some 41) rfl (by kernel_rfl) (by kernel_rfl) (by kernel_rfl) (by kernel_rfl) (fun _ _ _ h => h) HF.out rfl ?_ rfl rfl ?_ ?_
    rotate_left
    · intro w' hF; have f10 := hF.2.1.cell0; have f11 := hF.2.1.cell1; have f20 := hF.2.2.1.cell0; have f21 := hF.2.2.1.cell1; have f30 := hF.2.2.2.1.cell0; have f31 := hF.2.2.2.1.cell1; have f40 := hF.2.2.2.2.1.cell0; have f41 := hF.2.2.2.2.1.cell1; clear hF; go_simp; try rfl
    rotate_left
    · simp only [Act.put]; exact rfl
    refine Calm.take (i := 5) (v := ?_) (a' := ?_) (l' := #[true, true, false, false, false, true, false, false, false, false, false, false]) (d := some 45) rfl (by kernel_rfl) (by kernel_rfl) (by kernel_rfl) (by kernel_rfl) (fun _ _ _ h => h) HF.out rfl ?_ rfl rfl ?_ ?_
    rotate_left
    · intro w' hF; have f10 := hF.2.1.cell0; have f11 := hF.2.1.cell1; have f20 := hF.2.2.1.cell0; have f21 := hF.2.2.1.cell1; have f30 := hF.2.2.2.1.cell0; have f31 := hF.2.2.2.1.cell1; have f40 := hF.2.2.2.2.1.cell0; have f41 := hF.2.2.2.2.1.cell1; clear hF; go_simp; try rfl
    rotate_left
    · simp only [Act.put]; exact rfl
    refine Calm.take (i := 6) (v := ?_) (a' := ?_) (l' := #[true, true, false, false, false, true, true, false, false, false, false, false]) (d := some 46) rfl (by kernel_rfl) (by kernel_rfl) (by kernel_rfl) (by kernel_rfl) (fun _ _ _ h => h) HF.out rfl ?_ rfl rfl ?_ ?_
    rotate_left
    · intro w' hF; have f10 := hF.2.1.cell0; have f11 := hF.2.1.cell1; have f20 := hF.2.2.1.cell0; have f21 := hF.2.2.1.cell1; have f30 := hF.2.2.2.1.cell0; have f31 := hF.2.2.2.1.cell1; have f40 := hF.2.2.2.2.1.cell0; have f41 := hF.2.2.2.2.1.cell1; clear hF; go_simp; try rfl
    rotate_left
    · simp only [Act.put]; exact rfl
    refine Calm.one (i := 2) (l' := #[true, true, true, false, false, true, true, false, false, false, false, false]) (by kernel_rfl) rfl rfl rfl fun K hK => ?_
    go_simp
    refine (isign_any _ (sg b2 n2) _ HF.out.2.2.2.2.2.2.2).mono ?_
    rintro e u1 ⟨rfl, hb⟩
    replace P2 := hide (P2.out.step (hb))
    replace P3 := hide (P3.out.step (hb))
    have HF' := hide (And.intro (HF.out.1.trans ((hb).mono HF.out.1.size)) (And.intro (HF.out.2.1.step (hb)) (And.intro (HF.out.2.2.1.step (hb)) (And.intro (HF.out.2.2.2.1.step (hb)) (And.intro (HF.out.2.2.2.2.1.step (hb)) (And.intro (HF.out.2.2.2.2.2.1.below (hb)) (And.intro (HF.out.2.2.2.2.2.2.1.below (hb)) (HF.out.2.2.2.2.2.2.2.below (hb)))))))))
    refine hK _ _ (fun _ => HF'.out) ?_
    clear hK K HF hb
    have HF := hide HF'.out
    clear HF'
    refine Calm.one (i := 3) (l' := #[true, true, true, true, false, true, true, false, false, false, false, false]) (by kernel_rfl) rfl rfl rfl fun K hK => ?_
    go_simp
    refine (iof_any (sgnI (sg b2 n2)) _ (sgnI_lo _) (sgnI_hi _)).mono ?_
    rintro e u2 ⟨v, rfl, n, hb⟩
    replace P2 := hide (P2.out.step (hb))
    replace P3 := hide (P3.out.step (hb))
    have HF' := hide (And.intro (HF.out.1.trans ((hb).mono HF.out.1.size)) (And.intro (HF.out.2.1.step (hb)) (And.intro (HF.out.2.2.1.step (hb)) (And.intro (HF.out.2.2.2.1.step (hb)) (And.intro (HF.out.2.2.2.2.1.step (hb)) (And.intro (HF.out.2.2.2.2.2.1.below (hb)) (And.intro (HF.out.2.2.2.2.2.2.1.below (hb)) (HF.out.2.2.2.2.2.2.2.below (hb)))))))))
    have TS := hide (n)
    refine hK _ _ (fun _ => HF'.out) ?_
    clear hK K HF hb n
    have HF := hide HF'.out
    clear HF'
    refine Calm.one (i := 4) (l' := #[true, true, true, true, true, true, true, false, false, false, false, false]) (by kernel_rfl) rfl rfl rfl fun K hK => ?_
    go_simp
    refine (isub_any _ _ (sg (b1 != b2) (n1 / n2)) (sgnI (sg b2 n2)) _ HF.out.2.2.2.2.2.1 TS.out LQ.out (sgnI_len _)).mono ?_
    rintro e u3 ⟨v, rfl, n, hb⟩
    obtain ⟨s3, m3, k3, c3, rfl, n⟩ := n.cells
    replace P2 := hide (P2.out.step (hb))
    replace P3 := hide (P3.out.step (hb))
    clear TS
    have HF' := hide (And.intro (HF.out.1.trans ((hb).mono HF.out.1.size)) (And.intro (HF.out.2.1.step (hb)) (And.intro (HF.out.2.2.1.step (hb)) (And.intro (HF.out.2.2.2.1.step (hb)) (And.intro (HF.out.2.2.2.2.1.step (hb)) (And.intro (HF.out.2.2.2.2.2.1.below (hb)) (And.intro (HF.out.2.2.2.2.2.2.1.below (hb)) (HF.out.2.2.2.2.2.2.2.below (hb)))))))))
    have TQ := hide (n)
    refine hK _ _ (fun _ => HF'.out) ?_
    clear hK K HF hb n
    have HF := hide HF'.out
    clear HF'
    refine Calm.one (i := 7) (l' := #[true, true, true, true, true, true, true, true, false, false, false, false]) (by kernel_rfl) rfl rfl rfl fun K hK => ?_
    go_simp
    refine (iabs_any _ (sg b2 n2) _ HF.out.2.2.2.2.2.2.2).mono ?_
    rintro e u4 ⟨v, rfl, n, hb⟩
    replace P2 := hide (P2.out.step (hb))
    replace P3 := hide (P3.out.step (hb))
    replace TQ := hide (TQ.out.below (hb))
    have HF' := hide (And.intro (HF.out.1.trans ((hb).mono HF.out.1.size)) (And.intro (HF.out.2.1.step (hb)) (And.intro (HF.out.2.2.1.step (hb)) (And.intro (HF.out.2.2.2.1.step (hb)) (And.intro (HF.out.2.2.2.2.1.step (hb)) (And.intro (HF.out.2.2.2.2.2.1.below (hb)) (And.intro (HF.out.2.2.2.2.2.2.1.below (hb)) (HF.out.2.2.2.2.2.2.2.below (hb)))))))))
    have TA := hide (n)
    refine hK _ _ (fun _ => HF'.out) ?_
    clear hK K HF hb n
    have HF := hide HF'.out
    clear HF'
    refine Calm.one (i := 8) (l' := #[true, true, true, true, true, true, true, true, true, false, false, false]) (by kernel_rfl) rfl rfl rfl fun K hK => ?_
    go_simp
    refine (iadd_any _ _ (sg b1 (n1 % n2)) ((sg b2 n2).natAbs : Int) _ HF.out.2.2.2.2.2.2.1 TA.out LR.out (by rw [Int.natAbs_natCast, sg_abs]; exact l2)).mono ?_
    rintro e u5 ⟨v, rfl, n, hb⟩
    obtain ⟨s4, m4, k4, c4, rfl, n⟩ := n.cells
    replace P2 := hide (P2.out.step (hb))
    replace P3 := hide (P3.out.step (hb))
    replace TQ := hide (TQ.out.below (hb))
    clear TA
    have HF' := hide (And.intro (HF.out.1.trans ((hb).mono HF.out.1.size)) (And.intro (HF.out.2.1.step (hb)) (And.intro (HF.out.2.2.1.step (hb)) (And.intro (HF.out.2.2.2.1.step (hb)) (And.intro (HF.out.2.2.2.2.1.step (hb)) (And.intro (HF.out.2.2.2.2.2.1.below (hb)) (And.intro (HF.out.2.2.2.2.2.2.1.below (hb)) (HF.out.2.2.2.2.2.2.2.below (hb)))))))))
    have TR := hide (n)
    refine hK _ _ (fun _ => HF'.out) ?_
    clear hK K HF hb n
    have HF := hide HF'.out
    clear HF'
    refine Calm.one (i := 9) (l' := #[true, true, true, true, true, true, true, true, true, true, false, false]) (by kernel_rfl) rfl rfl rfl fun K hK => ?_
    have hc0 := P2.out.cell0
    have hc1 := P2.out.cell1
    have hf0 := P2.out.free 0
    have hf1 := P2.out.free 1
    go_simp
    have HF' := hide (And.intro (below_put HF.out.1 (show w.heap.size ≤ (w.heap.size + 1 + 1) by have hx := LTS.out; omega) (.bool s3) (.slice m3 k3 c3)) (And.intro (HF.out.2.1.other (C := (w.heap.size + 1 + 1)) (by have hx := LTS.out; omega) (.bool s3) (.slice m3 k3 c3)) (And.intro (HF.out.2.2.1.other (C := (w.heap.size + 1 + 1)) (by have hx := LTS.out; omega) (.bool s3) (.slice m3 k3 c3)) (And.intro (HF.out.2.2.2.1.other (C := (w.heap.size + 1 + 1)) (by have hx := LTS.out; omega) (.bool s3) (.slice m3 k3 c3)) (And.intro (HF.out.2.2.2.2.1.other (C := (w.heap.size + 1 + 1)) (by have hx := LTS.out; omega) (.bool s3) (.slice m3 k3 c3)) (And.intro (HF.out.2.2.2.2.2.1.keep (P2.out.keeps (by simp) (by simp) (.bool s3) (.slice m3 k3 c3))) (And.intro (HF.out.2.2.2.2.2.2.1.keep (P2.out.keeps (by simp) (by simp) (.bool s3) (.slice m3 k3 c3))) (HF.out.2.2.2.2.2.2.2.keep (P2.out.keeps (by simp) (by simp) (.bool s3) (.slice m3 k3 c3))))))))))
    replace P3 := hide (P3.out.other (C := (w.heap.size + 1 + 1)) (by have hx := LTS.out; omega) (.bool s3) (.slice m3 k3 c3))
    replace TQ := hide (TQ.out.keep (P2.out.keeps (by simp) (by simp) (.bool s3) (.slice m3 k3 c3)))
    replace TR := hide (TR.out.keep (P2.out.keeps (by simp) (by simp) (.bool s3) (.slice m3 k3 c3)))
    replace P2 := hide (P2.out.put (.bool s3) (.slice m3 k3 c3))
    refine hK _ _ (fun _ => HF'.out) ?_
    clear hK K HF hc0 hf0 hc1 hf1
    have HF := hide HF'.out
    clear HF'
    generalize ((u5.setCell ⟨(w.heap.size + 1 + 1), 0, none⟩ (.bool s3)).setCell ⟨(w.heap.size + 1 + 1), 1, none⟩ (.slice m3 k3 c3)) = ws1 at *
    refine Calm.one (i := 10) (l' := #[true, true, true, true, true, true, true, true, true, true, true, false]) (by kernel_rfl) rfl rfl rfl fun K hK => ?_
    have hc0 := P3.out.cell0
    have hc1 := P3.out.cell1
    have hf0 := P3.out.free 0
    have hf1 := P3.out.free 1
    go_simp
    have HF' := hide (And.intro (below_put HF.out.1 (show w.heap.size ≤ (w.heap.size + 1 + 1 + 1) by have hx := LTS.out; omega) (.bool s4) (.slice m4 k4 c4)) (And.intro (HF.out.2.1.other (C := (w.heap.size + 1 + 1 + 1)) (by have hx := LTS.out; omega) (.bool s4) (.slice m4 k4 c4)) (And.intro (HF.out.2.2.1.other (C := (w.heap.size + 1 + 1 + 1)) (by have hx := LTS.out; omega) (.bool s4) (.slice m4 k4 c4)) (And.intro (HF.out.2.2.2.1.other (C := (w.heap.size + 1 + 1 + 1)) (by have hx := LTS.out; omega) (.bool s4) (.slice m4 k4 c4)) (And.intro (HF.out.2.2.2.2.1.other (C := (w.heap.size + 1 + 1 + 1)) (by have hx := LTS.out; omega) (.bool s4) (.slice m4 k4 c4)) (And.intro (HF.out.2.2.2.2.2.1.keep (P3.out.keeps (by simp) (by simp) (.bool s4) (.slice m4 k4 c4))) (And.intro (HF.out.2.2.2.2.2.2.1.keep (P3.out.keeps (by simp) (by simp) (.bool s4) (.slice m4 k4 c4))) (HF.out.2.2.2.2.2.2.2.keep (P3.out.keeps (by simp) (by simp) (.bool s4) (.slice m4 k4 c4))))))))))
    replace P2 := hide (P2.out.other (C := (w.heap.size + 1 + 1 + 1)) (by have hx := LTS.out; omega) (.bool s4) (.slice m4 k4 c4))
    replace TQ := hide (TQ.out.keep (P3.out.keeps (by simp) (by simp) (.bool s4) (.slice m4 k4 c4)))
    replace TR := hide (TR.out.keep (P3.out.keeps (by simp) (by simp) (.bool s4) (.slice m4 k4 c4)))
    replace P3 := hide (P3.out.put (.bool s4) (.slice m4 k4 c4))
    refine hK _ _ (fun _ => HF'.out) ?_
    clear hK K HF hc0 hf0 hc1 hf1
    have HF := hide HF'.out
    clear HF'
    generalize ((ws1.setCell ⟨(w.heap.size + 1 + 1 + 1), 0, none⟩ (.bool s4)).setCell ⟨(w.heap.size + 1 + 1 + 1), 1, none⟩ (.slice m4 k4 c4)) = ws2 at *
    refine Calm.take (i := 11) (v := ?_) (a' := ?_) (l' := #[true, true, true, true, true, true, true, true, true, true, true, true]) (d := some 6) rfl (by kernel_rfl) (by kernel_rfl) (by kernel_rfl) (by kernel_rfl) (fun _ _ _ h => h) HF.out rfl ?_ rfl rfl ?_ ?_
    rotate_left
    · intro w' hF; clear hF; go_simp; try rfl
    rotate_left
    · simp only [Act.put]; exact rfl
    refine Calm.done (by kernel_rfl) ?_
    go_wp2
    refine ret_div rfl (w.heap.size + 1 + 1) (w.heap.size + 1 + 1 + 1) _ _ _ _ rfl rfl P2.out P3.out rfl ?_
    exact ⟨_, _, rfl, (div_less b1 b2 n1 n2 hy HS.out).1 ▸ TQ.out, (div_less b1 b2 n1 n2 hy HS.out).2 ▸ TR.out, HF.out.1⟩
  · have SG : (sgnI (sg b1 (n1 % n2)) < 0) = False := by simp only [sgnI, if_neg hs]; split <;> simp
    have SG' : ¬ sgnI (sg b1 (n1 % n2)) < 0 := by rw [SG]; exact id
    clear SG
    have HS := hide hs
    clear hs
    generalize sgnI (sg b1 (n1 % n2)) = sr0 at *
    go_wp2_with fail
    clear SG'
    replace P2 := hide P2.out.drew
    replace P3 := hide P3.out.drew
    refine wp_calm (fun w' => Below w.heap.size w w' ∧ Box w' w.heap.size (.bool b1) (.slice a1 (lim n1).length c1) ∧ Box w' (w.heap.size + 1) (.bool b2) (.slice a2 (lim n2).length c2) ∧ Box w' gq (.bool sq) (.slice mq kq cq) ∧ Box w' gr (.bool sr) (.slice mr kr cr) ∧ IntAt w' (.agg #[.bool sq, .slice mq kq cq]) (sg (b1 != b2) (n1 / n2)) ∧ IntAt w' (.agg #[.bool sr, .slice mr kr cr]) (sg b1 (n1 % n2))) (fun _ => true) 5 #[false, false, false, false, false] (by kernel_rfl) rfl rfl ?_
    have HF := hide (And.intro (HB.out.drew) (And.intro (P0.out.drew) (And.intro (P1.out.drew) (And.intro (PQ.out.drew) (And.intro (PR.out.drew) (And.intro (IQ.out.drew) (IR.out.drew)))))))
    generalize w6.drew = w6d at *
    refine Calm.take (i := 0) (v := ?_) (a' := ?_) (l' := #[true, false, false, false, false]) (d := some 49) rfl (by kernel_rfl) (by kernel_rfl) (by kernel_rfl) (by kernel_rfl) (fun _ _ _ h => h) HF.out rfl ?_ rfl rfl ?_ ?_
    rotate_left
    · intro w' hF; have f10 := hF.2.1.cell0; have f11 := hF.2.1.cell1; have f20 := hF.2.2.1.cell0; have f21 := hF.2.2.1.cell1; have f30 := hF.2.2.2.1.cell0; have f31 := hF.2.2.2.1.cell1; have f40 := hF.2.2.2.2.1.cell0; have f41 := hF.2.2.2.2.1.cell1; clear hF; go_simp; try rfl
    rotate_left
    · simp only [Act.put]; exact rfl
    refine Calm.take (i := 1) (v := ?_) (a' := ?_) (l' := #[true, true, false, false, false]) (d := some 50) rfl (by kernel_rfl) (by kernel_rfl) (by kernel_rfl) (by kernel_rfl) (fun _ _ _ h => h) HF.out rfl ?_ rfl rfl ?_ ?_
    rotate_left
    · intro w' hF; have f10 := hF.2.1.cell0; have f11 := hF.2.1.cell1; have f20 := hF.2.2.1.cell0; have f21 := hF.2.2.1.cell1; have f30 := hF.2.2.2.1.cell0; have f31 := hF.2.2.2.1.cell1; have f40 := hF.2.2.2.2.1.cell0; have f41 := hF.2.2.2.2.1.cell1; clear hF; go_simp; try rfl
    rotate_left
    · simp only [Act.put]; exact rfl
    refine Calm.one (i := 2) (l' := #[true, true, true, false, false]) (by kernel_rfl) rfl rfl rfl fun K hK => ?_
    have hc0 := P2.out.cell0
    have hc1 := P2.out.cell1
    have hf0 := P2.out.free 0
    have hf1 := P2.out.free 1
    go_simp
    have HF' := hide (And.intro (below_put HF.out.1 (show w.heap.size ≤ (w.heap.size + 1 + 1) by have hx := LTS.out; omega) (.bool sq) (.slice mq kq cq)) (And.intro (HF.out.2.1.other (C := (w.heap.size + 1 + 1)) (by have hx := LTS.out; omega) (.bool sq) (.slice mq kq cq)) (And.intro (HF.out.2.2.1.other (C := (w.heap.size + 1 + 1)) (by have hx := LTS.out; omega) (.bool sq) (.slice mq kq cq)) (And.intro (HF.out.2.2.2.1.other (C := (w.heap.size + 1 + 1)) (by have hx := LTS.out; omega) (.bool sq) (.slice mq kq cq)) (And.intro (HF.out.2.2.2.2.1.other (C := (w.heap.size + 1 + 1)) (by have hx := LTS.out; omega) (.bool sq) (.slice mq kq cq)) (And.intro (HF.out.2.2.2.2.2.1.keep (P2.out.keeps (by simp) (by simp) (.bool sq) (.slice mq kq cq))) (HF.out.2.2.2.2.2.2.keep (P2.out.keeps (by simp) (by simp) (.bool sq) (.slice mq kq cq)))))))))
    replace P3 := hide (P3.out.other (C := (w.heap.size + 1 + 1)) (by have hx := LTS.out; omega) (.bool sq) (.slice mq kq cq))
    replace P2 := hide (P2.out.put (.bool sq) (.slice mq kq cq))
    refine hK _ _ (fun _ => HF'.out) ?_
    clear hK K HF hc0 hf0 hc1 hf1
    have HF := hide HF'.out
    clear HF'
    generalize ((w6d.setCell ⟨(w.heap.size + 1 + 1), 0, none⟩ (.bool sq)).setCell ⟨(w.heap.size + 1 + 1), 1, none⟩ (.slice mq kq cq)) = ws1 at *
    refine Calm.one (i := 3) (l' := #[true, true, true, true, false]) (by kernel_rfl) rfl rfl rfl fun K hK => ?_
    have hc0 := P3.out.cell0
    have hc1 := P3.out.cell1
    have hf0 := P3.out.free 0
    have hf1 := P3.out.free 1
    go_simp
    have HF' := hide (And.intro (below_put HF.out.1 (show w.heap.size ≤ (w.heap.size + 1 + 1 + 1) by have hx := LTS.out; omega) (.bool sr) (.slice mr kr cr)) (And.intro (HF.out.2.1.other (C := (w.heap.size + 1 + 1 + 1)) (by have hx := LTS.out; omega) (.bool sr) (.slice mr kr cr)) (And.intro (HF.out.2.2.1.other (C := (w.heap.size + 1 + 1 + 1)) (by have hx := LTS.out; omega) (.bool sr) (.slice mr kr cr)) (And.intro (HF.out.2.2.2.1.other (C := (w.heap.size + 1 + 1 + 1)) (by have hx := LTS.out; omega) (.bool sr) (.slice mr kr cr)) (And.intro (HF.out.2.2.2.2.1.other (C := (w.heap.size + 1 + 1 + 1)) (by have hx := LTS.out; omega) (.bool sr) (.slice mr kr cr)) (And.intro (HF.out.2.2.2.2.2.1.keep (P3.out.keeps (by simp) (by simp) (.bool sr) (.slice mr kr cr))) (HF.out.2.2.2.2.2.2.keep (P3.out.keeps (by simp) (by simp) (.bool sr) (.slice mr kr cr)))))))))
    replace P2 := hide (P2.out.other (C := (w.heap.size + 1 + 1 + 1)) (by have hx := LTS.out; omega) (.bool sr) (.slice mr kr cr))
    replace P3 := hide (P3.out.put (.bool sr) (.slice mr kr cr))
    refine hK _ _ (fun _ => HF'.out) ?_
    clear hK K HF hc0 hf0 hc1 hf1
    have HF := hide HF'.out
    clear HF'
    generalize ((ws1.setCell ⟨(w.heap.size + 1 + 1 + 1), 0, none⟩ (.bool sr)).setCell ⟨(w.heap.size + 1 + 1 + 1), 1, none⟩ (.slice mr kr cr)) = ws2 at *
    refine Calm.take (i := 4) (v := ?_) (a' := ?_) (l' := #[true, true, true, true, true]) (d := some 6) rfl (by kernel_rfl) (by kernel_rfl) (by kernel_rfl) (by kernel_rfl) (fun _ _ _ h => h) HF.out rfl ?_ rfl rfl ?_ ?_
    rotate_left
    · intro w' hF; clear hF; go_simp; try rfl
    rotate_left
    · simp only [Act.put]; exact rfl
    refine Calm.done (by kernel_rfl) ?_
    go_wp2
    refine ret_div rfl (w.heap.size + 1 + 1) (w.heap.size + 1 + 1 + 1) _ _ _ _ rfl rfl P2.out P3.out rfl ?_
    exact ⟨_, _, rfl, (div_plain b1 b2 n1 n2 hy (by have := HS.out; omega)).1 ▸ HF.out.2.2.2.2.2.1, (div_plain b1 b2 n1 n2 hy (by have := HS.out; omega)).2 ▸ HF.out.2.2.2.2.2.2, HF.out.1⟩

end Go.Proofs.Ytgkibmigbjjnnaa
