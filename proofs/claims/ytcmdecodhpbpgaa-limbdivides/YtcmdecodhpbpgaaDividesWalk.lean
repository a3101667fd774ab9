/- swagelaw01.LimbDivides answers true at all lists of limbs and each limb, and turns nothing that was there. -/
import Derived.Test.YtcmdecodhpbpgaaRefCmp
import Derived.Test.YtcmdecodhpbpgaaRefDiv
namespace Go.Proofs.Ytcmdecodhpbpgaa
open Go.RowKit

theorem dval_c (c : Nat) : val [c] = c := by simp [val]

set_option maxHeartbeats 8000000 in
theorem divides_walk (v0 v1 : Value) (xs ys : List Nat) (c : Nat) (w : World) (h0 : Nums w v0 xs) (h1 : Nums w v1 ys) (hc : c < 4294967296) :
    Calls Try.prog 5 #[v0, v1, .int .u32 c] w fun e w' => e = .returned (.bool true) ∧ Below w.heap.size w w' := by
  have S := hide ((St.start.push h0).push h1)
  obtain ⟨o0, a0, c0, rfl, hl0, hm0, _⟩ := h0
  obtain ⟨o1, a1, c1, rfl, hl1, hm1, _⟩ := h1
  unfold maxLen at hm0 hm1
  go_enter Try.func5, Try.ntmps5
  go_wp2_with fail
  refine (works_any _).mono ?_
  rintro e w2 ⟨rfl, hb⟩
  replace S := hide (S.out.step hb)
  clear hb
  go_wp2_with fail
  have hls : ∀ W : World, Lists (W.alloc (.cells #[.slice a0 xs.length c0, .slice a1 ys.length c1] 22)) W.heap.size [(a0, xs.length, c0), (a1, ys.length, c1)] := by
    intro W i hi'
    match i, hi' with
    | 0, _ => simp
    | 1, _ => simp
  refine (long_any _ [(a0, xs.length, c0), (a1, ys.length, c1)] _ (hls _) (by simp) (by intro p hp; simp at hp; rcases hp with rfl | rfl <;> dsimp only <;> omega)).mono ?_
  rintro e w3 ⟨rfl, rfl⟩
  replace S := hide (S.out.alloc (.cells #[.slice a0 xs.length c0, .slice a1 ys.length c1] 22))
  clear hls
  by_cases g : 160 < xs.length ∨ 160 < ys.length
  · have hL : isLong [(a0, xs.length, c0), (a1, ys.length, c1)] = true := by simp [isLong]; omega
    rw [hL]
    clear hL g
    go_wp2
    go_ret
    exact ⟨rfl, S.out.below⟩
  have hL : isLong [(a0, xs.length, c0), (a1, ys.length, c1)] = false := by simp [isLong]; omega
  rw [hL]
  clear hL
  have g0 : xs.length ≤ 160 := by omega
  have g1 : ys.length ≤ 160 := by omega
  clear g
  have hcc : ((((c : Nat) : Int) == 0) = true ∧ c = 0) ∨ ((((c : Nat) : Int) == 0) = false ∧ 0 < c) := by
    rcases Nat.eq_zero_or_pos c with h | h
    · exact .inl ⟨by simp [h], h⟩
    · exact .inr ⟨by simp; omega, h⟩
  have HCC := hide hcc
  clear hcc
  go_wp2_with fail
  refine (room_any _ xs _ (S.out.get (by simp)) (by omega)).mono ?_
  rintro e w4 ⟨vgx, rfl, hr, hb⟩
  have n := hr.nums
  obtain ⟨gx, cx, rfl, hn2⟩ := hr
  replace S := hide (((S.out.step hb).push n).push hn2)
  clear hb n hn2
  go_wp2_with fail
  refine (room_any _ ys _ (S.out.get (by simp)) (by omega)).mono ?_
  rintro e w5 ⟨vgy, rfl, hr, hb⟩
  have n := hr.nums
  obtain ⟨gy, cy, rfl, hn2⟩ := hr
  replace S := hide (((S.out.step hb).push n).push hn2)
  clear hb n hn2
  by_cases hy : val ys = 0
  · have HY := hide hy
    clear hy
    go_wp2_with fail
    refine (divmod_zero _ _ xs ys _ (S.out.get (by simp)) (S.out.get (by simp)) HY.out).mono ?_
    rintro e w6 ⟨rfl, rfl⟩
    rcases HCC.out with ⟨hcz, hc0⟩ | ⟨hcz, hcp⟩
    · subst hc0
      clear hcz
      go_wp2_with fail
      refine (divSmall_zero _ _).mono ?_
      rintro e w7 ⟨rfl, rfl⟩
      go_wp2_with fail
      refine (kept_any _ _ xs _ ⟨gx, cx, rfl, S.out.get (by simp)⟩ (S.out.get (by simp)) (by omega)).mono ?_
      rintro e w8 ⟨rfl, hb⟩
      replace S := hide (S.out.step hb)
      clear hb
      go_wp2_with fail
      refine (kept_any _ _ ys _ ⟨gy, cy, rfl, S.out.get (by simp)⟩ (S.out.get (by simp)) (by omega)).mono ?_
      rintro e w9 ⟨rfl, hb⟩
      replace S := hide (S.out.step hb)
      clear hb
      go_wp2_with fail
      refine (rnorm_any _ ys _ (S.out.get (by simp)) (by omega)).mono ?_
      rintro e w10 ⟨nb, rfl, hO, hb⟩
      have n := hO.nums (ok_lim _)
      clear hO
      replace S := hide ((S.out.step hb).push n)
      clear hb n
      have nn := S.out.get (v := nb) (xs := lim (val ys)) (by simp)
      rw [HY.out, lim_zero] at nn
      obtain ⟨_, an, cn, rfl, _, _, _⟩ := nn
      go_wp2
      go_ret
      exact ⟨rfl, S.out.below⟩
    · have HCP := hide hcp
      clear hcp
      go_wp2_with fail
      refine (divSmall_any _ xs c _ (S.out.get (by simp)) HCP.out hc (by omega)).mono ?_
      rintro e w7 ⟨kq, rfl, n, hb⟩
      replace S := hide ((S.out.step hb).push n)
      clear hb n
      go_wp2_with fail
      refine (kept_any _ _ xs _ ⟨gx, cx, rfl, S.out.get (by simp)⟩ (S.out.get (by simp)) (by omega)).mono ?_
      rintro e w8 ⟨rfl, hb⟩
      replace S := hide (S.out.step hb)
      clear hb
      go_wp2_with fail
      refine (kept_any _ _ ys _ ⟨gy, cy, rfl, S.out.get (by simp)⟩ (S.out.get (by simp)) (by omega)).mono ?_
      rintro e w9 ⟨rfl, hb⟩
      replace S := hide (S.out.step hb)
      clear hb
      go_wp2_with fail
      replace S := hide (S.out.alloc (.cells #[.int .u32 (c : Nat)] 31))
      refine (rdivmod_any _ _ xs [c] _ (S.out.get (by simp)) (nums_lit1 _ _ _ _ rfl hc) (by omega) (by simp) (by rw [dval_c]; exact HCP.out)).mono ?_
      rintro e w10 ⟨q2, r2, rfl, hq, hr, hb⟩
      rw [dval_c] at hq hr
      replace S := hide (((S.out.step hb).push hq).push hr)
      clear hq hr hb
      go_wp2_with fail
      refine (equal_yes _ _ (lim (val xs / c)) _ (S.out.get (by simp)) (S.out.get (by simp))).mono ?_
      rintro e w11 ⟨rfl, hb⟩
      replace S := hide (S.out.step hb)
      clear hb
      go_wp2_with fail
      replace S := hide (S.out.alloc (.cells #[.int .u32 ((val xs : Int) % (c : Int))] 31))
      refine (rnorm_any _ [val xs % c] _ (nums_lit1 _ _ _ _ (by rw [Int.natCast_emod]) (Nat.lt_trans (Nat.mod_lt _ HCP.out) hc)) (by simp)).mono ?_
      rintro e w12 ⟨nr, rfl, hO, hb⟩
      have n := hO.nums (ok_lim _)
      rw [dval_c] at n
      clear hO
      replace S := hide ((S.out.step hb).push n)
      clear hb n
      go_wp2_with fail
      refine (equal_yes _ _ (lim (val xs % c)) _ (S.out.get (by simp)) (S.out.get (by simp))).mono ?_
      rintro e w13 ⟨rfl, hb⟩
      replace S := hide (S.out.step hb)
      clear hb
      go_wp2_with fail
      refine (rnorm_any _ ys _ (S.out.get (by simp)) (by omega)).mono ?_
      rintro e w14 ⟨nb, rfl, hO, hb⟩
      have n := hO.nums (ok_lim _)
      clear hO
      replace S := hide ((S.out.step hb).push n)
      clear hb n
      have nn := S.out.get (v := nb) (xs := lim (val ys)) (by simp)
      rw [HY.out, lim_zero] at nn
      obtain ⟨_, an, cn, rfl, _, _, _⟩ := nn
      go_wp2
      go_ret
      exact ⟨rfl, S.out.below⟩
  · have HY := hide hy
    clear hy
    have HYP : Hid (0 < val ys) := Nat.pos_of_ne_zero HY.out
    go_wp2_with fail
    refine (divmod_any _ _ xs ys _ (S.out.get (by simp)) (S.out.get (by simp)) (by omega) HYP.out).mono ?_
    rintro e w6 ⟨q, r, rfl, hq, hr, hb⟩
    replace S := hide (((S.out.step hb).push hq).push hr)
    clear hq hr hb
    rcases HCC.out with ⟨hcz, hc0⟩ | ⟨hcz, hcp⟩
    · subst hc0
      clear hcz
      go_wp2_with fail
      refine (divSmall_zero _ _).mono ?_
      rintro e w7 ⟨rfl, rfl⟩
      go_wp2_with fail
      refine (kept_any _ _ xs _ ⟨gx, cx, rfl, S.out.get (by simp)⟩ (S.out.get (by simp)) (by omega)).mono ?_
      rintro e w8 ⟨rfl, hb⟩
      replace S := hide (S.out.step hb)
      clear hb
      go_wp2_with fail
      refine (kept_any _ _ ys _ ⟨gy, cy, rfl, S.out.get (by simp)⟩ (S.out.get (by simp)) (by omega)).mono ?_
      rintro e w9 ⟨rfl, hb⟩
      replace S := hide (S.out.step hb)
      clear hb
      go_wp2_with fail
      refine (rnorm_any _ ys _ (S.out.get (by simp)) (by omega)).mono ?_
      rintro e w10 ⟨nb, rfl, hO, hb⟩
      have n := hO.nums (ok_lim _)
      clear hO
      replace S := hide ((S.out.step hb).push n)
      clear hb n
      have nn := S.out.get (v := nb) (xs := lim (val ys)) (by simp)
      obtain ⟨_, an, cn, rfl, _, hcn, _⟩ := nn
      unfold maxLen at hcn
      have hpos : 0 < (lim (val ys)).length := lim_len_pos HYP.out
      go_wp2_with fail
      refine (rdivmod_any _ _ xs ys _ (S.out.get (by simp)) (S.out.get (by simp)) (by omega) (by omega) HYP.out).mono ?_
      rintro e w11 ⟨q3, r3, rfl, hq, hr, hb⟩
      replace S := hide (((S.out.step hb).push hq).push hr)
      clear hq hr hb hpos
      go_wp2_with fail
      refine (equal_yes _ _ (lim (val xs / val ys)) _ (S.out.get (by simp)) (S.out.get (by simp))).mono ?_
      rintro e w12 ⟨rfl, hb⟩
      replace S := hide (S.out.step hb)
      clear hb
      go_wp2_with fail
      refine (equal_yes _ _ (lim (val xs % val ys)) _ (S.out.get (by simp)) (S.out.get (by simp))).mono ?_
      rintro e w13 ⟨rfl, hb⟩
      replace S := hide (S.out.step hb)
      clear hb
      go_wp2
      go_ret
      exact ⟨rfl, S.out.below⟩
    · have HCP := hide hcp
      clear hcp
      go_wp2_with fail
      refine (divSmall_any _ xs c _ (S.out.get (by simp)) HCP.out hc (by omega)).mono ?_
      rintro e w7 ⟨kq, rfl, n, hb⟩
      replace S := hide ((S.out.step hb).push n)
      clear hb n
      go_wp2_with fail
      refine (kept_any _ _ xs _ ⟨gx, cx, rfl, S.out.get (by simp)⟩ (S.out.get (by simp)) (by omega)).mono ?_
      rintro e w8 ⟨rfl, hb⟩
      replace S := hide (S.out.step hb)
      clear hb
      go_wp2_with fail
      refine (kept_any _ _ ys _ ⟨gy, cy, rfl, S.out.get (by simp)⟩ (S.out.get (by simp)) (by omega)).mono ?_
      rintro e w9 ⟨rfl, hb⟩
      replace S := hide (S.out.step hb)
      clear hb
      go_wp2_with fail
      replace S := hide (S.out.alloc (.cells #[.int .u32 (c : Nat)] 31))
      refine (rdivmod_any _ _ xs [c] _ (S.out.get (by simp)) (nums_lit1 _ _ _ _ rfl hc) (by omega) (by simp) (by rw [dval_c]; exact HCP.out)).mono ?_
      rintro e w10 ⟨q2, r2, rfl, hq, hr, hb⟩
      rw [dval_c] at hq hr
      replace S := hide (((S.out.step hb).push hq).push hr)
      clear hq hr hb
      go_wp2_with fail
      refine (equal_yes _ _ (lim (val xs / c)) _ (S.out.get (by simp)) (S.out.get (by simp))).mono ?_
      rintro e w11 ⟨rfl, hb⟩
      replace S := hide (S.out.step hb)
      clear hb
      go_wp2_with fail
      replace S := hide (S.out.alloc (.cells #[.int .u32 ((val xs : Int) % (c : Int))] 31))
      refine (rnorm_any _ [val xs % c] _ (nums_lit1 _ _ _ _ (by rw [Int.natCast_emod]) (Nat.lt_trans (Nat.mod_lt _ HCP.out) hc)) (by simp)).mono ?_
      rintro e w12 ⟨nr, rfl, hO, hb⟩
      have n := hO.nums (ok_lim _)
      rw [dval_c] at n
      clear hO
      replace S := hide ((S.out.step hb).push n)
      clear hb n
      go_wp2_with fail
      refine (equal_yes _ _ (lim (val xs % c)) _ (S.out.get (by simp)) (S.out.get (by simp))).mono ?_
      rintro e w13 ⟨rfl, hb⟩
      replace S := hide (S.out.step hb)
      clear hb
      go_wp2_with fail
      refine (rnorm_any _ ys _ (S.out.get (by simp)) (by omega)).mono ?_
      rintro e w14 ⟨nb, rfl, hO, hb⟩
      have n := hO.nums (ok_lim _)
      clear hO
      replace S := hide ((S.out.step hb).push n)
      clear hb n
      have nn := S.out.get (v := nb) (xs := lim (val ys)) (by simp)
      obtain ⟨_, an, cn, rfl, _, hcn, _⟩ := nn
      unfold maxLen at hcn
      have hpos : 0 < (lim (val ys)).length := lim_len_pos HYP.out
      go_wp2_with fail
      refine (rdivmod_any _ _ xs ys _ (S.out.get (by simp)) (S.out.get (by simp)) (by omega) (by omega) HYP.out).mono ?_
      rintro e w15 ⟨q3, r3, rfl, hq, hr, hb⟩
      replace S := hide (((S.out.step hb).push hq).push hr)
      clear hq hr hb hpos
      go_wp2_with fail
      refine (equal_yes _ _ (lim (val xs / val ys)) _ (S.out.get (by simp)) (S.out.get (by simp))).mono ?_
      rintro e w16 ⟨rfl, hb⟩
      replace S := hide (S.out.step hb)
      clear hb
      go_wp2_with fail
      refine (equal_yes _ _ (lim (val xs % val ys)) _ (S.out.get (by simp)) (S.out.get (by simp))).mono ?_
      rintro e w17 ⟨rfl, hb⟩
      replace S := hide (S.out.step hb)
      clear hb
      go_wp2
      go_ret
      exact ⟨rfl, S.out.below⟩
end Go.Proofs.Ytcmdecodhpbpgaa
