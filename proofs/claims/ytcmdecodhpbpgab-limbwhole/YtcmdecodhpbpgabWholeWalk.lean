/- swagelaw01.LimbWhole answers true at all lists of limbs and each limb, and turns nothing that was there. -/
import Derived.Test.YtcmdecodhpbpgabDivAll
namespace Go.Proofs.Ytcmdecodhpbpgab
open Go.RowKit

theorem val_c0 (c : Nat) : val [c, 0] = c := by simp [val]
theorem val_c (c : Nat) : val [c] = c := by simp [val]
theorem Sz.div {k m : Nat} (h : Sz k m) (n : Nat) : Sz k (m / n) := h.le (Nat.div_le_self m n)
theorem Sz.mod {k m : Nat} (h : Sz k m) (n : Nat) : Sz k (m % n) := h.le (Nat.mod_le m n)
theorem cmp_mod (m n : Nat) (h : 0 < n) : cmpI (val (lim (m % n))) n < 0 := by
  rw [val_lim]; unfold cmpI; rw [if_pos (Nat.mod_lt m h)]; omega
theorem cmp_mod_v (m : Nat) (ys : List Nat) (h : 0 < val ys) : cmpI (val (lim (m % val ys))) (val ys) < 0 := cmp_mod m (val ys) h

set_option maxHeartbeats 8000000 in
theorem whole_walk (v0 v1 : Value) (xs ys : List Nat) (c : Nat) (w : World) (h0 : Nums w v0 xs) (h1 : Nums w v1 ys) (hc : c < 4294967296) :
    Calls Try.prog 5 #[v0, v1, .int .u32 c] w fun e w' => e = .returned (.bool true) ∧ Below w.heap.size w w' := by
  have S := hide ((St.start.push h0).push h1)
  obtain ⟨o0, a0, c0, rfl, hl0, hm0, _⟩ := h0
  obtain ⟨o1, a1, c1, rfl, hl1, hm1, _⟩ := h1
  have HO0 := hide o0
  have HO1 := hide o1
  unfold maxLen at hm0 hm1
  go_enter Try.func5, Try.ntmps5
  go_wp2_with fail
  refine (works_any _).mono ?_
  rintro e w2 ⟨rfl, hb⟩
  replace S := hide (S.out.step hb)
  clear hb
  by_cases g0 : 2000 < xs.length
  · go_wp2
    go_ret
    exact ⟨rfl, S.out.below⟩
  by_cases g1 : 2000 < ys.length
  · go_wp2
    go_ret
    exact ⟨rfl, S.out.below⟩
  have HZ : Hid (Sz 2000 (val xs)) := Sz.of HO0.out (by omega)
  have lq : (lim (val xs / val ys)).length ≤ 2000 := (HZ.out.div _).len
  have lr : (lim (val xs % val ys)).length ≤ 2000 := (HZ.out.mod _).len
  have lk : (lim (val xs / c)).length ≤ 2000 := (HZ.out.div _).len
  have lp : (lim (val xs / val ys * val ys)).length ≤ 2000 := (HZ.out.le (Nat.div_mul_le_self _ _)).len
  clear HZ
  have hcc : ((((c : Nat) : Int) == 0) = true ∧ c = 0) ∨ ((((c : Nat) : Int) == 0) = false ∧ 0 < c) := by
    rcases Nat.eq_zero_or_pos c with h | h
    · exact .inl ⟨by simp [h], h⟩
    · exact .inr ⟨by simp; omega, h⟩
  have HCC := hide hcc
  clear hcc
  by_cases hy : val ys = 0
  · have HY := hide hy
    clear hy
    go_wp2_with fail
    refine (divmod_zero _ _ xs ys _ (S.out.get (by simp)) (S.out.get (by simp)) HY.out).mono ?_
    rintro e w3 ⟨rfl, rfl⟩
    go_wp2_with fail
    refine (norm_any _ ys _ (S.out.get (by simp)) (by omega)).mono ?_
    rintro e w4 ⟨nb, rfl, _, n, hb⟩
    replace S := hide ((S.out.step hb).push n)
    clear hb n
    have nn := S.out.get (v := nb) (xs := lim (val ys)) (by simp)
    rw [HY.out, lim_zero] at nn
    obtain ⟨_, an, cn, rfl, _, _, _⟩ := nn
    rcases HCC.out with ⟨hcz, hc0⟩ | ⟨hcz, hcp⟩
    · clear hc0
      go_wp2
      go_ret
      exact ⟨rfl, S.out.below⟩
    · have HCP := hide hcp
      clear hcp
      go_wp2_with fail
      refine (divSmall_any _ xs c _ (S.out.get (by simp)) HCP.out hc (by omega)).mono ?_
      rintro e w5 ⟨kq, rfl, n, hb⟩
      replace S := hide ((S.out.step hb).push n)
      clear hb n
      go_wp2_with fail
      replace S := hide (S.out.alloc (.cells #[.int .u32 (c : Nat), .int .u32 0] 33))
      refine (divmod_any _ _ xs [c, 0] _ (S.out.get (by simp)) (nums_lit2 _ _ _ _ _ _ rfl rfl hc (by decide)) (by omega) (by rw [val_c0]; exact HCP.out)).mono ?_
      rintro e w6 ⟨q2, r2, rfl, hq, hr, hb⟩
      rw [val_c0] at hq hr
      replace S := hide (((S.out.step hb).push hq).push hr)
      clear hq hr hb
      have hrlt : ((val xs % c : Nat) : Int) < (c : Int) := by have := Nat.mod_lt (val xs) HCP.out; omega
      have hrlt2 : (val xs : Int) % (c : Int) < (c : Int) := by rw [← Int.natCast_emod]; exact hrlt
      go_wp2_with fail
      refine (equal_yes _ _ (lim (val xs / c)) _ (S.out.get (by simp)) (S.out.get (by simp))).mono ?_
      rintro e w7 ⟨rfl, hb⟩
      replace S := hide (S.out.step hb)
      clear hb
      go_wp2_with fail
      replace S := hide (S.out.alloc (.cells #[.int .u32 ((val xs : Int) % (c : Int))] 33))
      refine (norm_any _ [val xs % c] _ (nums_lit1 _ _ _ _ (by rw [Int.natCast_emod]) (Nat.lt_trans (Nat.mod_lt _ HCP.out) hc)) (by simp)).mono ?_
      rintro e w8 ⟨nr, rfl, _, n, hb⟩
      rw [val_c] at n
      replace S := hide ((S.out.step hb).push n)
      clear hb n
      go_wp2_with fail
      refine (equal_yes _ _ (lim (val xs % c)) _ (S.out.get (by simp)) (S.out.get (by simp))).mono ?_
      rintro e w9 ⟨rfl, hb⟩
      replace S := hide (S.out.step hb)
      clear hb
      go_wp2_with fail
      refine (mulSmall_any _ (lim (val xs / c)) c _ (S.out.get (by simp)) hc (by omega)).mono ?_
      rintro e w10 ⟨t1, rfl, n, hb⟩
      rw [val_lim] at n
      replace S := hide ((S.out.step hb).push n)
      clear hb n
      go_wp2_with fail
      replace S := hide (S.out.alloc (.cells #[.int .u32 (c : Nat)] 33))
      refine (mul_any _ _ (lim (val xs / c)) [c] _ (S.out.get (by simp)) (nums_lit1 _ _ _ _ rfl hc) (by omega) (by simp)).mono ?_
      rintro e w11 ⟨t2, rfl, n, hb⟩
      rw [val_lim, val_c] at n
      replace S := hide ((S.out.step hb).push n)
      clear hb n
      go_wp2_with fail
      refine (equal_yes _ _ (lim (val xs / c * c)) _ (S.out.get (by simp)) (S.out.get (by simp))).mono ?_
      rintro e w12 ⟨rfl, hb⟩
      replace S := hide (S.out.step hb)
      clear hb
      go_wp2
      go_ret
      exact ⟨rfl, S.out.below⟩
  · have HY := hide hy
    clear hy
    have HYP : Hid (0 < val ys) := Nat.pos_of_ne_zero HY.out
    go_wp2_with fail
    refine (divmod_any _ _ xs ys _ (S.out.get (by simp)) (S.out.get (by simp)) (by omega) HYP.out).mono ?_
    rintro e w3 ⟨q, r, rfl, hq, hr, hb⟩
    replace S := hide (((S.out.step hb).push hq).push hr)
    clear hq hr hb
    go_wp2_with fail
    refine (norm_any _ ys _ (S.out.get (by simp)) (by omega)).mono ?_
    rintro e w4 ⟨nb, rfl, _, n, hb⟩
    replace S := hide ((S.out.step hb).push n)
    clear hb n
    have nn := S.out.get (v := nb) (xs := lim (val ys)) (by simp)
    obtain ⟨_, an, cn, rfl, _, hcn, _⟩ := nn
    unfold maxLen at hcn
    have hpos : 0 < (lim (val ys)).length := lim_len_pos HYP.out
    have hcmp := cmp_mod_v (val xs) ys HYP.out
    go_wp2_with fail
    refine (cmp_any _ _ (lim (val xs % val ys)) ys _ (S.out.get (by simp)) (S.out.get (by simp))).mono ?_
    rintro e w5 ⟨rfl, hb⟩
    replace S := hide (S.out.step hb)
    clear hb
    go_wp2_with fail
    refine (mul_any _ _ (lim (val xs / val ys)) ys _ (S.out.get (by simp)) (S.out.get (by simp)) (by omega) (by omega)).mono ?_
    rintro e w6 ⟨p1, rfl, n, hb⟩
    rw [val_lim] at n
    replace S := hide ((S.out.step hb).push n)
    clear hb n
    go_wp2_with fail
    refine (add_any _ _ (lim (val xs / val ys * val ys)) (lim (val xs % val ys)) _ (S.out.get (by simp)) (S.out.get (by simp)) (by omega) (by omega)).mono ?_
    rintro e w7 ⟨p2, rfl, n, hb⟩
    rw [val_lim, val_lim, Nat.div_add_mod'] at n
    replace S := hide ((S.out.step hb).push n)
    clear hb n
    go_wp2_with fail
    refine (norm_any _ xs _ (S.out.get (by simp)) (by omega)).mono ?_
    rintro e w8 ⟨na, rfl, _, n, hb⟩
    replace S := hide ((S.out.step hb).push n)
    clear hb n
    go_wp2_with fail
    refine (equal_yes _ _ (lim (val xs)) _ (S.out.get (by simp)) (S.out.get (by simp))).mono ?_
    rintro e w9 ⟨rfl, hb⟩
    replace S := hide (S.out.step hb)
    clear hb
    rcases HCC.out with ⟨hcz, hc0⟩ | ⟨hcz, hcp⟩
    · clear hc0
      go_wp2
      go_ret
      exact ⟨rfl, S.out.below⟩
    · have HCP := hide hcp
      clear hcp
      go_wp2_with fail
      refine (divSmall_any _ xs c _ (S.out.get (by simp)) HCP.out hc (by omega)).mono ?_
      rintro e w10 ⟨kq, rfl, n, hb⟩
      replace S := hide ((S.out.step hb).push n)
      clear hb n
      go_wp2_with fail
      replace S := hide (S.out.alloc (.cells #[.int .u32 (c : Nat), .int .u32 0] 33))
      refine (divmod_any _ _ xs [c, 0] _ (S.out.get (by simp)) (nums_lit2 _ _ _ _ _ _ rfl rfl hc (by decide)) (by omega) (by rw [val_c0]; exact HCP.out)).mono ?_
      rintro e w11 ⟨q2, r2, rfl, hq, hr, hb⟩
      rw [val_c0] at hq hr
      replace S := hide (((S.out.step hb).push hq).push hr)
      clear hq hr hb
      have hrlt : ((val xs % c : Nat) : Int) < (c : Int) := by have := Nat.mod_lt (val xs) HCP.out; omega
      have hrlt2 : (val xs : Int) % (c : Int) < (c : Int) := by rw [← Int.natCast_emod]; exact hrlt
      go_wp2_with fail
      refine (equal_yes _ _ (lim (val xs / c)) _ (S.out.get (by simp)) (S.out.get (by simp))).mono ?_
      rintro e w12 ⟨rfl, hb⟩
      replace S := hide (S.out.step hb)
      clear hb
      go_wp2_with fail
      replace S := hide (S.out.alloc (.cells #[.int .u32 ((val xs : Int) % (c : Int))] 33))
      refine (norm_any _ [val xs % c] _ (nums_lit1 _ _ _ _ (by rw [Int.natCast_emod]) (Nat.lt_trans (Nat.mod_lt _ HCP.out) hc)) (by simp)).mono ?_
      rintro e w13 ⟨nr, rfl, _, n, hb⟩
      rw [val_c] at n
      replace S := hide ((S.out.step hb).push n)
      clear hb n
      go_wp2_with fail
      refine (equal_yes _ _ (lim (val xs % c)) _ (S.out.get (by simp)) (S.out.get (by simp))).mono ?_
      rintro e w14 ⟨rfl, hb⟩
      replace S := hide (S.out.step hb)
      clear hb
      go_wp2_with fail
      refine (mulSmall_any _ (lim (val xs / c)) c _ (S.out.get (by simp)) hc (by omega)).mono ?_
      rintro e w15 ⟨t1, rfl, n, hb⟩
      rw [val_lim] at n
      replace S := hide ((S.out.step hb).push n)
      clear hb n
      go_wp2_with fail
      replace S := hide (S.out.alloc (.cells #[.int .u32 (c : Nat)] 33))
      refine (mul_any _ _ (lim (val xs / c)) [c] _ (S.out.get (by simp)) (nums_lit1 _ _ _ _ rfl hc) (by omega) (by simp)).mono ?_
      rintro e w16 ⟨t2, rfl, n, hb⟩
      rw [val_lim, val_c] at n
      replace S := hide ((S.out.step hb).push n)
      clear hb n
      go_wp2_with fail
      refine (equal_yes _ _ (lim (val xs / c * c)) _ (S.out.get (by simp)) (S.out.get (by simp))).mono ?_
      rintro e w17 ⟨rfl, hb⟩
      replace S := hide (S.out.step hb)
      clear hb
      go_wp2
      go_ret
      exact ⟨rfl, S.out.below⟩
end Go.Proofs.Ytcmdecodhpbpgab
