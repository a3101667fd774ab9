/- swagelaw01.LimbProducts answers true at all lists of limbs and each limb, and turns nothing that was there. -/
import Derived.Test.YtcmdecodhpbpgaaRefCmp
import Derived.Test.YtcmdecodhpbpgaaRefProd
namespace Go.Proofs.Ytcmdecodhpbpgaa
open Go.RowKit

set_option maxHeartbeats 8000000 in
theorem prods_walk (v0 v1 : Value) (xs ys : List Nat) (c : Nat) (w : World) (h0 : Nums w v0 xs) (h1 : Nums w v1 ys) (hc : c < 4294967296) :
    Calls Try.prog 4 #[v0, v1, .int .u32 c] w fun e w' => e = .returned (.bool true) ∧ Below w.heap.size w w' := by
  have S := hide ((St.start.push h0).push h1)
  obtain ⟨o0, a0, c0, rfl, hl0, hm0, _⟩ := h0
  obtain ⟨o1, a1, c1, rfl, hl1, hm1, _⟩ := h1
  unfold maxLen at hm0 hm1
  go_enter Try.func4, Try.ntmps4
  go_wp2_with fail
  refine (works_any _).mono ?_
  rintro e w2 ⟨rfl, hb⟩
  replace S := hide (S.out.step hb)
  clear hb
  go_wp2_with fail
  have hls : ∀ W : World, Lists (W.alloc (.cells #[.slice a0 xs.length c0, .slice a1 ys.length c1] 22)) W.heap.size [(a0, xs.length, c0), (a1, ys.length, c1)] := by
    intro W i hi'
    match i, hi' with
    | 0, _ => simp
    | 1, _ => simp
  refine (long_any _ [(a0, xs.length, c0), (a1, ys.length, c1)] _ (hls _) (by simp) (by intro p hp; simp at hp; rcases hp with rfl | rfl <;> dsimp only <;> omega)).mono ?_
  rintro e w3 ⟨rfl, rfl⟩
  replace S := hide (S.out.alloc (.cells #[.slice a0 xs.length c0, .slice a1 ys.length c1] 22))
  clear hls
  by_cases g : 160 < xs.length ∨ 160 < ys.length
  · have hL : isLong [(a0, xs.length, c0), (a1, ys.length, c1)] = true := by simp [isLong]; omega
    rw [hL]
    clear hL g
    go_wp2
    go_ret
    exact ⟨rfl, S.out.below⟩
  have hL : isLong [(a0, xs.length, c0), (a1, ys.length, c1)] = false := by simp [isLong]; omega
  rw [hL]
  clear hL
  have g0 : xs.length ≤ 160 := by omega
  have g1 : ys.length ≤ 160 := by omega
  clear g
  go_wp2_with fail
  refine (room_any _ xs _ (S.out.get (by simp)) (by omega)).mono ?_
  rintro e w4 ⟨vgx, rfl, hr, hb⟩
  have n := hr.nums
  obtain ⟨gx, cx, rfl, hn2⟩ := hr
  replace S := hide (((S.out.step hb).push n).push hn2)
  clear hb n hn2
  go_wp2_with fail
  refine (room_any _ ys _ (S.out.get (by simp)) (by omega)).mono ?_
  rintro e w5 ⟨vgy, rfl, hr, hb⟩
  have n := hr.nums
  obtain ⟨gy, cy, rfl, hn2⟩ := hr
  replace S := hide (((S.out.step hb).push n).push hn2)
  clear hb n hn2
  go_wp2_with fail
  refine (mul_any _ _ xs ys _ (S.out.get (by simp)) (S.out.get (by simp)) (by omega) (by omega)).mono ?_
  rintro e w6 ⟨p1, rfl, n, hb⟩
  replace S := hide ((S.out.step hb).push n)
  clear hb n
  go_wp2_with fail
  refine (rmul_any _ _ xs ys _ (S.out.get (by simp)) (S.out.get (by simp)) (by omega) (by omega)).mono ?_
  rintro e w7 ⟨p2, rfl, hO, hb⟩
  have n := hO.nums (ok_lim _)
  clear hO
  replace S := hide ((S.out.step hb).push n)
  clear hb n
  go_wp2_with fail
  refine (equal_yes _ _ (lim (val xs * val ys)) _ (S.out.get (by simp)) (S.out.get (by simp))).mono ?_
  rintro e w8 ⟨rfl, hb⟩
  replace S := hide (S.out.step hb)
  clear hb
  go_wp2_with fail
  refine (mulSmall_any _ xs c _ (S.out.get (by simp)) hc (by omega)).mono ?_
  rintro e w9 ⟨q1, rfl, n, hb⟩
  replace S := hide ((S.out.step hb).push n)
  clear hb n
  go_wp2_with fail
  refine (rmulSmall_any _ xs c _ (S.out.get (by simp)) hc (by omega)).mono ?_
  rintro e w10 ⟨q2, rfl, hO, hb⟩
  have n := hO.nums (ok_lim _)
  clear hO
  replace S := hide ((S.out.step hb).push n)
  clear hb n
  go_wp2_with fail
  refine (equal_yes _ _ (lim (val xs * c)) _ (S.out.get (by simp)) (S.out.get (by simp))).mono ?_
  rintro e w11 ⟨rfl, hb⟩
  replace S := hide (S.out.step hb)
  clear hb
  go_wp2_with fail
  refine (kept_any _ _ xs _ ⟨gx, cx, rfl, S.out.get (by simp)⟩ (S.out.get (by simp)) (by omega)).mono ?_
  rintro e w12 ⟨rfl, hb⟩
  replace S := hide (S.out.step hb)
  clear hb
  go_wp2_with fail
  refine (kept_any _ _ ys _ ⟨gy, cy, rfl, S.out.get (by simp)⟩ (S.out.get (by simp)) (by omega)).mono ?_
  rintro e w13 ⟨rfl, hb⟩
  replace S := hide (S.out.step hb)
  clear hb
  go_wp2
  go_ret
  exact ⟨rfl, S.out.below⟩
end Go.Proofs.Ytcmdecodhpbpgaa
