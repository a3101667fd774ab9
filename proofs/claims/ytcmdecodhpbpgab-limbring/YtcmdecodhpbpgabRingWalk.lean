/- swagelaw01.LimbRing answers true at all lists of limbs, and turns nothing that was there. -/
import Derived.Test.YtcmdecodhpbpgabLaw
namespace Go.Proofs.Ytcmdecodhpbpgab
open Go.RowKit

set_option maxHeartbeats 4000000 in
theorem ring_walk (v0 v1 v2 : Value) (xs ys zs : List Nat) (w : World) (h0 : Nums w v0 xs) (h1 : Nums w v1 ys) (h2 : Nums w v2 zs) :
    Calls Try.prog 4 #[v0, v1, v2] w fun e w' => e = .returned (.bool true) ∧ Below w.heap.size w w' := by
  have S := hide (((St.start.push h0).push h1).push h2)
  obtain ⟨o0, a0, c0, rfl, hl0, hm0, _⟩ := h0
  obtain ⟨o1, a1, c1, rfl, hl1, hm1, _⟩ := h1
  obtain ⟨o2, a2, c2, rfl, hl2, hm2, _⟩ := h2
  unfold maxLen at hm0 hm1 hm2
  go_enter Try.func4, Try.ntmps4
  go_wp2_with fail
  refine (works_any _).mono ?_
  rintro e w1 ⟨rfl, hb⟩
  replace S := hide (S.out.step hb)
  clear hb
  by_cases g0 : 2000 < xs.length
  · go_wp2
    go_ret
    exact ⟨rfl, S.out.below⟩
  by_cases g1 : 2000 < ys.length
  · go_wp2
    go_ret
    exact ⟨rfl, S.out.below⟩
  by_cases g2 : 2000 < zs.length
  · go_wp2
    go_ret
    exact ⟨rfl, S.out.below⟩
  have zx : Sz 2000 (val xs) := Sz.of o0 (by omega)
  have zy : Sz 2000 (val ys) := Sz.of o1 (by omega)
  have zz : Sz 2000 (val zs) := Sz.of o2 (by omega)
  have l1 : (lim (val xs + val ys)).length ≤ 2001 := (zx.add zy).len
  have l2 : (lim (val ys + val zs)).length ≤ 2001 := (zy.add zz).len
  have l3 : (lim (val xs * val ys)).length ≤ 4000 := (zx.mul zy).len
  have l4 : (lim (val ys * val zs)).length ≤ 4000 := (zy.mul zz).len
  have l5 : (lim (val xs * val zs)).length ≤ 4000 := (zx.mul zz).len
  clear zx zy zz
  -- ab, bc
  go_wp2_with fail
  refine (add_any _ _ xs ys _ (S.out.get (by simp)) (S.out.get (by simp)) (by omega) (by omega)).mono ?_
  rintro e w2 ⟨ab, rfl, n, hb⟩
  replace S := hide ((S.out.step hb).push n)
  clear hb n
  go_wp2_with fail
  refine (add_any _ _ ys zs _ (S.out.get (by simp)) (S.out.get (by simp)) (by omega) (by omega)).mono ?_
  rintro e w3 ⟨bc, rfl, n, hb⟩
  replace S := hide ((S.out.step hb).push n)
  clear hb n
  -- p, q
  go_wp2_with fail
  refine (mul_any _ _ xs ys _ (S.out.get (by simp)) (S.out.get (by simp)) (by omega) (by omega)).mono ?_
  rintro e w4 ⟨p, rfl, n, hb⟩
  replace S := hide ((S.out.step hb).push n)
  clear hb n
  go_wp2_with fail
  refine (mul_any _ _ ys zs _ (S.out.get (by simp)) (S.out.get (by simp)) (by omega) (by omega)).mono ?_
  rintro e w5 ⟨q, rfl, n, hb⟩
  replace S := hide ((S.out.step hb).push n)
  clear hb n
  -- ab = ba
  go_wp2_with fail
  refine (add_any _ _ ys xs _ (S.out.get (by simp)) (S.out.get (by simp)) (by omega) (by omega)).mono ?_
  rintro e w6 ⟨t1, rfl, n, hb⟩
  rw [Nat.add_comm (val ys) (val xs)] at n
  replace S := hide ((S.out.step hb).push n)
  clear hb n
  go_wp2_with fail
  refine (equal_yes _ _ (lim (val xs + val ys)) _ (S.out.get (by simp)) (S.out.get (by simp))).mono ?_
  rintro e w7 ⟨rfl, hb⟩
  replace S := hide (S.out.step hb)
  clear hb
  -- p = ba
  go_wp2_with fail
  refine (mul_any _ _ ys xs _ (S.out.get (by simp)) (S.out.get (by simp)) (by omega) (by omega)).mono ?_
  rintro e w8 ⟨t2, rfl, n, hb⟩
  rw [Nat.mul_comm (val ys) (val xs)] at n
  replace S := hide ((S.out.step hb).push n)
  clear hb n
  go_wp2_with fail
  refine (equal_yes _ _ (lim (val xs * val ys)) _ (S.out.get (by simp)) (S.out.get (by simp))).mono ?_
  rintro e w9 ⟨rfl, hb⟩
  replace S := hide (S.out.step hb)
  clear hb
  -- (a + b) + c
  go_wp2_with fail
  refine (add_any _ _ (lim (val xs + val ys)) zs _ (S.out.get (by simp)) (S.out.get (by simp)) (by omega) (by omega)).mono ?_
  rintro e w10 ⟨t3, rfl, n, hb⟩
  rw [val_lim] at n
  replace S := hide ((S.out.step hb).push n)
  clear hb n
  go_wp2_with fail
  refine (add_any _ _ xs (lim (val ys + val zs)) _ (S.out.get (by simp)) (S.out.get (by simp)) (by omega) (by omega)).mono ?_
  rintro e w11 ⟨t4, rfl, n, hb⟩
  rw [val_lim, ← Nat.add_assoc] at n
  replace S := hide ((S.out.step hb).push n)
  clear hb n
  go_wp2_with fail
  refine (equal_yes _ _ (lim (val xs + val ys + val zs)) _ (S.out.get (by simp)) (S.out.get (by simp))).mono ?_
  rintro e w12 ⟨rfl, hb⟩
  replace S := hide (S.out.step hb)
  clear hb
  -- (a b) c
  go_wp2_with fail
  refine (mul_any _ _ (lim (val xs * val ys)) zs _ (S.out.get (by simp)) (S.out.get (by simp)) (by omega) (by omega)).mono ?_
  rintro e w13 ⟨t5, rfl, n, hb⟩
  rw [val_lim] at n
  replace S := hide ((S.out.step hb).push n)
  clear hb n
  go_wp2_with fail
  refine (mul_any _ _ xs (lim (val ys * val zs)) _ (S.out.get (by simp)) (S.out.get (by simp)) (by omega) (by omega)).mono ?_
  rintro e w14 ⟨t6, rfl, n, hb⟩
  rw [val_lim, ← Nat.mul_assoc] at n
  replace S := hide ((S.out.step hb).push n)
  clear hb n
  go_wp2_with fail
  refine (equal_yes _ _ (lim (val xs * val ys * val zs)) _ (S.out.get (by simp)) (S.out.get (by simp))).mono ?_
  rintro e w15 ⟨rfl, hb⟩
  replace S := hide (S.out.step hb)
  clear hb
  -- a (b + c)
  go_wp2_with fail
  refine (mul_any _ _ xs (lim (val ys + val zs)) _ (S.out.get (by simp)) (S.out.get (by simp)) (by omega) (by omega)).mono ?_
  rintro e w16 ⟨t7, rfl, n, hb⟩
  rw [val_lim] at n
  replace S := hide ((S.out.step hb).push n)
  clear hb n
  go_wp2_with fail
  refine (mul_any _ _ xs zs _ (S.out.get (by simp)) (S.out.get (by simp)) (by omega) (by omega)).mono ?_
  rintro e w17 ⟨t8, rfl, n, hb⟩
  replace S := hide ((S.out.step hb).push n)
  clear hb n
  go_wp2_with fail
  refine (add_any _ _ (lim (val xs * val ys)) (lim (val xs * val zs)) _ (S.out.get (by simp)) (S.out.get (by simp)) (by omega) (by omega)).mono ?_
  rintro e w18 ⟨t9, rfl, n, hb⟩
  rw [val_lim, val_lim, ← Nat.mul_add] at n
  replace S := hide ((S.out.step hb).push n)
  clear hb n
  go_wp2_with fail
  refine (equal_yes _ _ (lim (val xs * (val ys + val zs))) _ (S.out.get (by simp)) (S.out.get (by simp))).mono ?_
  rintro e w19 ⟨rfl, hb⟩
  replace S := hide (S.out.step hb)
  clear hb
  -- (a + b) - b
  go_wp2_with fail
  refine (sub_ge _ _ (lim (val xs + val ys)) ys _ (S.out.get (by simp)) (S.out.get (by simp)) (by omega) (by rw [val_lim]; omega)).mono ?_
  rintro e w20 ⟨d, rfl, n, hb⟩
  rw [val_lim, Nat.add_sub_cancel] at n
  replace S := hide ((S.out.step hb).push n)
  clear hb n
  go_wp2_with fail
  refine (norm_any _ xs _ (S.out.get (by simp)) (by omega)).mono ?_
  rintro e w21 ⟨na, rfl, _, n, hb⟩
  replace S := hide ((S.out.step hb).push n)
  clear hb n
  go_wp2_with fail
  refine (equal_yes _ _ (lim (val xs)) _ (S.out.get (by simp)) (S.out.get (by simp))).mono ?_
  rintro e w22 ⟨rfl, hb⟩
  replace S := hide (S.out.step hb)
  clear hb
  have hcmp : 0 ≤ cmpI (val (lim (val xs + val ys))) (val xs) := by
    rw [val_lim]; unfold cmpI; rw [if_neg (by omega)]; split <;> omega
  go_wp2_with fail
  refine (cmp_any _ _ (lim (val xs + val ys)) xs _ (S.out.get (by simp)) (S.out.get (by simp))).mono ?_
  rintro e w23 ⟨rfl, hb⟩
  replace S := hide (S.out.step hb)
  clear hb
  go_wp2
  go_ret
  exact ⟨rfl, S.out.below⟩
end Go.Proofs.Ytcmdecodhpbpgab
