/- The document's answers for layer 1 (swageref01): DivMod, Gcd. -/
import Derived.Test.YtamcmdabhlbnjaaDoorRefBits
namespace Go.Proofs.YtamcmdabhlbnjaaDoor
open Go.RowKit

/-- k bits to go -/
structure BitAt (x y k : Nat) (Q R : List Nat) : Prop where
  okQ : Ok Q
  okR : Ok R
  sum : val Q * y + val R = x / 2 ^ k
  lt : val R < y

theorem half_bit (x k : Nat) : x / 2 ^ k = 2 * (x / 2 ^ (k + 1)) + (bitB x k).toNat := by
  have e : x / 2 ^ (k + 1) = x / 2 ^ k / 2 := by rw [Nat.pow_succ, Nat.div_div_eq_div_mul]
  rw [e]
  unfold bitB
  by_cases h : x / 2 ^ k % 2 = 1
  · simp [h]; omega
  · simp [h]; omega

theorem BitAt.yes {x y k : Nat} {Q R Q' R1 R2 : List Nat} (h : BitAt x y (k + 1) Q R) (hR1 : val R1 = 2 * val R + (bitB x k).toNat) (hf : y ≤ val R1) (hR2 : val R2 = val R1 - y) (hQ : val Q' = 2 * val Q + 1) (oQ : Ok Q') (oR : Ok R2) : BitAt x y k Q' R2 := by
  have hs := h.sum
  have hl := h.lt
  have hb : (bitB x k).toNat ≤ 1 := by cases bitB x k <;> decide
  refine ⟨oQ, oR, ?_, by omega⟩
  rw [half_bit, ← hs, hQ, hR2]
  have : (2 * val Q + 1) * y = 2 * (val Q * y) + y := by rw [Nat.add_mul, Nat.one_mul, Nat.mul_assoc]
  omega

theorem BitAt.no {x y k : Nat} {Q R Q' R1 : List Nat} (h : BitAt x y (k + 1) Q R) (hR1 : val R1 = 2 * val R + (bitB x k).toNat) (hf : ¬ y ≤ val R1) (hQ : val Q' = 2 * val Q + 0) (oQ : Ok Q') (oR : Ok R1) : BitAt x y k Q' R1 := by
  have hs := h.sum
  refine ⟨oQ, oR, ?_, by omega⟩
  rw [half_bit, ← hs, hQ, hR1]
  have : (2 * val Q + 0) * y = 2 * (val Q * y) := by rw [Nat.add_zero, Nat.mul_assoc]
  omega

theorem BitAt.end {x y : Nat} {Q R : List Nat} (h : BitAt x y 0 Q R) : val Q = x / y ∧ val R = x % y := by
  have hs := h.sum
  have hl := h.lt
  rw [Nat.pow_zero, Nat.div_one] at hs
  rw [← hs, Nat.mul_comm]
  exact ⟨by rw [Nat.mul_add_div (by omega), Nat.div_eq_of_lt hl, Nat.add_zero], by rw [Nat.mul_add_mod, Nat.mod_eq_of_lt hl]⟩

theorem cmp_ge {m n : Nat} (h : n ≤ m) : 0 ≤ cmpI m n := by unfold cmpI; rw [if_neg (by omega)]; split <;> omega
theorem cmp_lt {m n : Nat} (h : ¬ n ≤ m) : cmpI m n < 0 := by unfold cmpI; rw [if_pos (by omega)]; omega

set_option maxRecDepth 100000 in
set_option maxHeartbeats 2000000 in
theorem rdivmod_any (v1 v2 : Value) (xs ys : List Nat) (w : World) (h1 : Nums w v1 xs) (h2 : Nums w v2 ys) (b1 : xs.length ≤ 1000000) (b2 : ys.length ≤ 1000000) (hy : 0 < val ys) :
    Calls Tryd.prog 51 #[v1, v2] w fun e w' => ∃ q r, e = .returned (.tuple #[q, r]) ∧ Nums w' q (lim (val xs / val ys)) ∧ Nums w' r (lim (val xs % val ys)) ∧ Below w.heap.size w w' := by
  have HN1 := hide h1
  have HY := hide hy
  have HLY := hide (lim_val_length h2.ok)
  clear hy
  go_enter Tryd.func51, Tryd.ntmps51
  go_wp2_with fail
  refine (rnorm_any v2 ys _ h2 (by omega)).mono ?_
  rintro e w1 ⟨vb, rfl, hOb, hb1⟩
  have HB0 := hide (hOb.nums (ok_lim _))
  have HA0 := hide (HN1.out.below hb1)
  have HW0 := hide hb1
  clear h1 h2 hOb hb1
  go_wp2_with fail
  refine (rbits_any v1 xs _ HA0.out (by omega)).mono ?_
  rintro e w2 ⟨n, rfl, hlen, hn, hb2⟩
  have HLEN := hide hlen
  have HB1 := hide (HB0.out.below hb2)
  have HA1 := hide (HA0.out.below hb2)
  have HW1 := hide (HW0.out.trans (hb2.mono HW0.out.size))
  clear hlen hb2 HB0 HA0 HW0
  go_wp2
  go_loopw [6, 7, 8] (fun qv rv iv wr => ∃ (k : Nat) (Q R : List Nat), k ≤ n ∧ iv = .int .i64 ((k : Int) - 1) ∧ BitAt (val xs) (val ys) k Q R ∧ Q.length ≤ n - k ∧ R.length ≤ n - k ∧ Nums wr qv Q ∧ Nums wr rv R ∧ Nums wr vb (lim (val ys)) ∧ Nums wr v1 xs ∧ Below w.heap.size w wr) (fun _ _ iv _ => (intOf iv + 1).toNat)
  case atStart => exact ⟨n, [], [], Nat.le_refl _, by go_num, ⟨Ok.nil, Ok.nil, by rw [Nat.div_eq_of_lt HLEN.out.1]; simp [val], HY.out⟩, by simp, by simp, Nums.nil_mk _ _ _ (Nat.zero_le _), Nums.nil_mk _ _ _ (Nat.zero_le _), HB1.out, HA1.out, HW1.out⟩
  case round =>
    clear HB1 HA1 HW1
    obtain ⟨k, Q, R, hk, rfl, hat, hQl, hRl, nQ, nR, nB, nA, hbel⟩ := hrel
    have HAT := hide hat
    have NQ := hide nQ
    have NR := hide nR
    have NB := hide nB
    have NA := hide nA
    have HW := hide hbel
    clear hat nQ nR nB nA hbel
    cases k with
    | zero =>
      have HE := hide HAT.out.end
      go_wp2_with fail
      refine (rnorm_any _ Q _ NQ.out (by omega)).mono ?_
      rintro e w3 ⟨vq, rfl, hOq, hb3⟩
      rw [HE.out.1] at hOq
      have NQ3 := hide (hOq.nums (ok_lim _))
      have NR3 := hide (NR.out.below hb3)
      have HW3 := hide (HW.out.trans (hb3.mono HW.out.size))
      clear hOq hb3
      go_wp2_with fail
      refine (rnorm_any _ R _ NR3.out (by omega)).mono ?_
      rintro e w4 ⟨vr, rfl, hOr, hb4⟩
      rw [HE.out.2] at hOr
      have NR4 := hide (hOr.nums (ok_lim _))
      have NQ4 := hide (NQ3.out.below hb4)
      have HW4 := hide (HW3.out.trans (hb4.mono HW3.out.size))
      clear hOr hb4
      go_wp2
      go_ret2
      exact ⟨_, _, rfl, NQ4.out, NR4.out, HW4.out⟩
    | succ k =>
      rw [show (((k + 1 : Nat) : Int) - 1) = (k : Int) from by omega]
      go_wp2_with fail
      refine (rbit_any v1 xs k _ NA.out (by omega)).mono ?_
      rintro e w3 ⟨rfl, rfl⟩
      go_wp2_with fail
      refine (rdouble_any _ R (bitB (val xs) k) _ NR.out (by omega)).mono ?_
      rintro e w4 ⟨vr, R1, rfl, hO1, oR1, hR1, hR1l, hb4⟩
      have HR1 := hide hR1
      have NR4 := hide (hO1.nums oR1)
      have OR1 := hide oR1
      have NQ4 := hide (NQ.out.below hb4)
      have NB4 := hide (NB.out.below hb4)
      have NA4 := hide (NA.out.below hb4)
      have HW4 := hide (HW.out.trans (hb4.mono HW.out.size))
      clear hO1 oR1 hR1 hb4 NQ NB NA NR HW
      have hLY := HLY.out
      by_cases hf : val ys ≤ val R1
      · have hcI : 0 ≤ cmpI (val R1) (val (lim (val ys))) := by rw [val_lim]; exact cmp_ge hf
        have HF := hide hf
        clear hf
        go_wp2_with fail
        refine (rcmp_any _ _ R1 (lim (val ys)) _ NR4.out NB4.out (by omega) (by omega)).mono ?_
        rintro e w5 ⟨rfl, rfl⟩
        go_wp2_with fail
        refine (rsub_any _ _ R1 (lim (val ys)) _ NR4.out NB4.out (by omega) (by rw [val_lim]; have := HF.out; omega)).mono ?_
        rintro e w6 ⟨vr2, rfl, hO6, hb6⟩
        rw [val_lim] at hO6
        have NR6 := hide (hO6.nums (ok_lim _))
        have NQ6 := hide (NQ4.out.below hb6)
        have NB6 := hide (NB4.out.below hb6)
        have NA6 := hide (NA4.out.below hb6)
        have HW6 := hide (HW4.out.trans (hb6.mono HW4.out.size))
        have hRl6 : (lim (val R1 - val ys)).length ≤ R1.length := lim_length_le (Nat.lt_of_le_of_lt (Nat.sub_le _ _) (val_lt OR1.out))
        clear hO6 hb6 NR4 NQ4 NB4 NA4 HW4
        go_wp2_with fail
        refine (rdouble_any _ Q _ _ NQ6.out (by omega)).mono ?_
        rintro e w7 ⟨vq, Q', rfl, hO7, oQ', hQ', hQ'l, hb7⟩
        have hQ2 : val Q' = 2 * val Q + 1 := by rw [hQ']; simp
        have HNX := hide (HAT.out.yes HR1.out HF.out (val_lim _) hQ2 oQ' (ok_lim _))
        have NQ7 := hide (hO7.nums oQ')
        have NR7 := hide (NR6.out.below hb7)
        have NB7 := hide (NB6.out.below hb7)
        have NA7 := hide (NA6.out.below hb7)
        have HW7 := hide (HW6.out.trans (hb7.mono HW6.out.size))
        clear hO7 oQ' hQ' hb7 hQ2 NR6 NQ6 NB6 NA6 HW6
        go_wp2
        go_roundw
        case rel => exact ⟨k, Q', _, by omega, by go_num, HNX.out, by omega, by omega, NQ7.out, NR7.out, NB7.out, NA7.out, HW7.out⟩
        case measure => simp [intOf]
      · have hcI : cmpI (val R1) (val (lim (val ys))) < 0 := by rw [val_lim]; exact cmp_lt hf
        have HF := hide hf
        clear hf
        go_wp2_with fail
        refine (rcmp_any _ _ R1 (lim (val ys)) _ NR4.out NB4.out (by omega) (by omega)).mono ?_
        rintro e w5 ⟨rfl, rfl⟩
        go_wp2_with fail
        refine (rdouble_any _ Q _ _ NQ4.out (by omega)).mono ?_
        rintro e w7 ⟨vq, Q', rfl, hO7, oQ', hQ', hQ'l, hb7⟩
        have hQ2 : val Q' = 2 * val Q + 0 := by
          rw [hQ']
          have : ¬ 0 ≤ cmpI (val R1) (val (lim (val ys))) := by omega
          first | simp [this] | rfl
        have HNX := hide (HAT.out.no HR1.out HF.out hQ2 oQ' OR1.out)
        have NQ7 := hide (hO7.nums oQ')
        have NR7 := hide (NR4.out.below hb7)
        have NB7 := hide (NB4.out.below hb7)
        have NA7 := hide (NA4.out.below hb7)
        have HW7 := hide (HW4.out.trans (hb7.mono HW4.out.size))
        clear hO7 oQ' hQ' hb7 hQ2 NR4 NQ4 NB4 NA4 HW4
        go_wp2
        go_roundw
        case rel => exact ⟨k, Q', R1, by omega, by go_num, HNX.out, by omega, by omega, NQ7.out, NR7.out, NB7.out, NA7.out, HW7.out⟩
        case measure => simp [intOf]
end Go.Proofs.YtamcmdabhlbnjaaDoor
