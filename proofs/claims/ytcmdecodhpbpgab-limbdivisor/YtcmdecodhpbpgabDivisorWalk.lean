/- swagelaw01.LimbDivisor answers true at all lists of limbs, and turns nothing that was there. -/
import Derived.Test.YtcmdecodhpbpgabDivAll
namespace Go.Proofs.Ytcmdecodhpbpgab
open Go.RowKit

theorem Sz.gcd {k m n : Nat} (h : Sz k m) (h' : Sz k n) : Sz k (Nat.gcd m n) := by
  rcases Nat.eq_zero_or_pos m with e | e
  · rw [e, Nat.gcd_zero_left]; exact h'
  · exact h.le (Nat.gcd_le_left n e)

theorem mod_gcd_left (m n : Nat) : m % Nat.gcd m n = 0 := Nat.mod_eq_zero_of_dvd (Nat.gcd_dvd_left m n)
theorem mod_gcd_right (m n : Nat) : n % Nat.gcd m n = 0 := Nat.mod_eq_zero_of_dvd (Nat.gcd_dvd_right m n)

set_option maxHeartbeats 8000000 in
theorem divisor_walk (v0 v1 v2 : Value) (xs ys zs : List Nat) (w : World) (h0 : Nums w v0 xs) (h1 : Nums w v1 ys) (h2 : Nums w v2 zs) :
    Calls Try.prog 6 #[v0, v1, v2] w fun e w' => e = .returned (.bool true) ∧ Below w.heap.size w w' := by
  have S := hide (((St.start.push h0).push h1).push h2)
  obtain ⟨o0, a0, c0, rfl, hl0, hm0, _⟩ := h0
  obtain ⟨o1, a1, c1, rfl, hl1, hm1, _⟩ := h1
  obtain ⟨o2, a2, c2, rfl, hl2, hm2, _⟩ := h2
  have HO0 := hide o0
  have HO1 := hide o1
  have HO2 := hide o2
  unfold maxLen at hm0 hm1 hm2
  go_enter Try.func6, Try.ntmps6
  go_wp2_with fail
  refine (works_any _).mono ?_
  rintro e w2 ⟨rfl, hb⟩
  replace S := hide (S.out.step hb)
  clear hb
  by_cases g0 : 100 < xs.length
  · go_wp2
    go_ret
    exact ⟨rfl, S.out.below⟩
  by_cases g1 : 100 < ys.length
  · go_wp2
    go_ret
    exact ⟨rfl, S.out.below⟩
  by_cases g2 : 100 < zs.length
  · go_wp2
    go_ret
    exact ⟨rfl, S.out.below⟩
  have zx : Hid (Sz 100 (val xs)) := Sz.of HO0.out (by omega)
  have zy : Hid (Sz 100 (val ys)) := Sz.of HO1.out (by omega)
  have zz : Hid (Sz 100 (val zs)) := Sz.of HO2.out (by omega)
  have lg : (lim (Nat.gcd (val xs) (val ys))).length ≤ 100 := (zx.out.gcd zy.out).len
  have l1 : (lim (val xs * val zs)).length ≤ 200 := (zx.out.mul zz.out).len
  have l2 : (lim (val ys * val zs)).length ≤ 200 := (zy.out.mul zz.out).len
  clear zx zy zz
  go_wp2_with fail
  refine (gcd_any _ _ xs ys _ (S.out.get (by simp)) (S.out.get (by simp)) (by omega) (by omega)).mono ?_
  rintro e w3 ⟨gv, rfl, n, hb⟩
  have ng := n
  replace S := hide ((S.out.step hb).push n)
  clear hb n
  obtain ⟨_, ag, cg, rfl, hlg, hmg, _⟩ := ng
  unfold maxLen at hmg
  by_cases hz : Nat.gcd (val xs) (val ys) = 0
  · have HX0 : Hid (val xs = 0) := Nat.eq_zero_of_gcd_eq_zero_left hz
    have HY0 : Hid (val ys = 0) := Nat.eq_zero_of_gcd_eq_zero_right hz
    have hL : (lim (Nat.gcd (val xs) (val ys))).length = 0 := by rw [hz, lim_zero]; rfl
    rw [hL]
    clear hL hz
    go_wp2_with fail
    refine (norm_any _ xs _ (S.out.get (by simp)) (by omega)).mono ?_
    rintro e w4 ⟨na, rfl, _, n, hb⟩
    replace S := hide ((S.out.step hb).push n)
    clear hb n
    have nn := S.out.get (v := na) (xs := lim (val xs)) (by simp)
    rw [HX0.out, lim_zero] at nn
    obtain ⟨_, an, cn, rfl, _, _, _⟩ := nn
    go_wp2_with fail
    refine (norm_any _ ys _ (S.out.get (by simp)) (by omega)).mono ?_
    rintro e w5 ⟨nb, rfl, _, n, hb⟩
    replace S := hide ((S.out.step hb).push n)
    clear hb n
    have nn := S.out.get (v := nb) (xs := lim (val ys)) (by simp)
    rw [HY0.out, lim_zero] at nn
    obtain ⟨_, an2, cn2, rfl, _, _, _⟩ := nn
    go_wp2
    go_ret
    exact ⟨rfl, S.out.below⟩
  · have HZ : Hid (0 < Nat.gcd (val xs) (val ys)) := Nat.pos_of_ne_zero hz
    clear hz
    have hpos : 0 < (lim (Nat.gcd (val xs) (val ys))).length := lim_len_pos HZ.out
    have hlz : ((((lim (Nat.gcd (val xs) (val ys))).length : Nat) : Int) == 0) = false := by simp; intro h; rw [h] at hpos; simp at hpos
    go_wp2_with fail
    refine (divmod_any _ _ xs (lim (Nat.gcd (val xs) (val ys))) _ (S.out.get (by simp)) (S.out.get (by simp)) (by omega) (by rw [val_lim]; exact HZ.out)).mono ?_
    rintro e w4 ⟨q1, r1, rfl, _, hr, hb⟩
    rw [val_lim, mod_gcd_left, lim_zero] at hr
    obtain ⟨_, ar1, cr1, rfl, _, _, _⟩ := hr
    replace S := hide (S.out.step hb)
    clear hb
    go_wp2_with fail
    refine (divmod_any _ _ ys (lim (Nat.gcd (val xs) (val ys))) _ (S.out.get (by simp)) (S.out.get (by simp)) (by omega) (by rw [val_lim]; exact HZ.out)).mono ?_
    rintro e w5 ⟨q2, r2, rfl, _, hr, hb⟩
    rw [val_lim, mod_gcd_right, lim_zero] at hr
    obtain ⟨_, ar2, cr2, rfl, _, _, _⟩ := hr
    replace S := hide (S.out.step hb)
    clear hb
    go_wp2_with fail
    refine (gcd_any _ _ ys xs _ (S.out.get (by simp)) (S.out.get (by simp)) (by omega) (by omega)).mono ?_
    rintro e w6 ⟨g2v, rfl, n, hb⟩
    rw [Nat.gcd_comm] at n
    replace S := hide ((S.out.step hb).push n)
    clear hb n
    go_wp2_with fail
    refine (equal_yes _ _ (lim (Nat.gcd (val xs) (val ys))) _ (S.out.get (by simp)) (S.out.get (by simp))).mono ?_
    rintro e w7 ⟨rfl, hb⟩
    replace S := hide (S.out.step hb)
    clear hb
    go_wp2_with fail
    refine (mul_any _ _ xs zs _ (S.out.get (by simp)) (S.out.get (by simp)) (by omega) (by omega)).mono ?_
    rintro e w8 ⟨m1, rfl, n, hb⟩
    replace S := hide ((S.out.step hb).push n)
    clear hb n
    go_wp2_with fail
    refine (mul_any _ _ ys zs _ (S.out.get (by simp)) (S.out.get (by simp)) (by omega) (by omega)).mono ?_
    rintro e w9 ⟨m2, rfl, n, hb⟩
    replace S := hide ((S.out.step hb).push n)
    clear hb n
    go_wp2_with fail
    refine (gcd_any _ _ (lim (val xs * val zs)) (lim (val ys * val zs)) _ (S.out.get (by simp)) (S.out.get (by simp)) (by omega) (by omega)).mono ?_
    rintro e w10 ⟨g3v, rfl, n, hb⟩
    rw [val_lim, val_lim, Nat.gcd_mul_right] at n
    replace S := hide ((S.out.step hb).push n)
    clear hb n
    go_wp2_with fail
    refine (mul_any _ _ (lim (Nat.gcd (val xs) (val ys))) zs _ (S.out.get (by simp)) (S.out.get (by simp)) (by omega) (by omega)).mono ?_
    rintro e w11 ⟨m3, rfl, n, hb⟩
    rw [val_lim] at n
    replace S := hide ((S.out.step hb).push n)
    clear hb n
    go_wp2_with fail
    refine (equal_yes _ _ (lim (Nat.gcd (val xs) (val ys) * val zs)) _ (S.out.get (by simp)) (S.out.get (by simp))).mono ?_
    rintro e w12 ⟨rfl, hb⟩
    replace S := hide (S.out.step hb)
    clear hb
    go_wp2
    go_ret
    exact ⟨rfl, S.out.below⟩
end Go.Proofs.Ytcmdecodhpbpgab
