/- swagelaw01.LimbGcds answers true at all lists of limbs, and turns nothing that was there. -/
import Derived.Test.YtcmdecodhpbpgaaRefCmp
import Derived.Test.YtcmdecodhpbpgaaRefGcd
namespace Go.Proofs.Ytcmdecodhpbpgaa
open Go.RowKit

set_option maxHeartbeats 8000000 in
theorem gcds_walk (v0 v1 : Value) (xs ys : List Nat) (w : World) (h0 : Nums w v0 xs) (h1 : Nums w v1 ys) :
    Calls Try.prog 6 #[v0, v1] w fun e w' => e = .returned (.bool true) ∧ Below w.heap.size w w' := by
  have S := hide ((St.start.push h0).push h1)
  obtain ⟨o0, a0, c0, rfl, hl0, hm0, _⟩ := h0
  obtain ⟨o1, a1, c1, rfl, hl1, hm1, _⟩ := h1
  unfold maxLen at hm0 hm1
  go_enter Try.func6, Try.ntmps6
  go_wp2_with fail
  refine (works_any _).mono ?_
  rintro e w2 ⟨rfl, hb⟩
  replace S := hide (S.out.step hb)
  clear hb
  by_cases g0 : 24 < xs.length
  · go_wp2
    go_ret
    exact ⟨rfl, S.out.below⟩
  by_cases g1 : 24 < ys.length
  · go_wp2
    go_ret
    exact ⟨rfl, S.out.below⟩
  go_wp2_with fail
  refine (room_any _ xs _ (S.out.get (by simp)) (by omega)).mono ?_
  rintro e w3 ⟨vgx, rfl, hr, hb⟩
  have n := hr.nums
  obtain ⟨gx, cx, rfl, hn2⟩ := hr
  replace S := hide (((S.out.step hb).push n).push hn2)
  clear hb n hn2
  go_wp2_with fail
  refine (room_any _ ys _ (S.out.get (by simp)) (by omega)).mono ?_
  rintro e w4 ⟨vgy, rfl, hr, hb⟩
  have n := hr.nums
  obtain ⟨gy, cy, rfl, hn2⟩ := hr
  replace S := hide (((S.out.step hb).push n).push hn2)
  clear hb n hn2
  go_wp2_with fail
  refine (gcd_any _ _ xs ys _ (S.out.get (by simp)) (S.out.get (by simp)) (by omega) (by omega)).mono ?_
  rintro e w5 ⟨p1, rfl, n, hb⟩
  replace S := hide ((S.out.step hb).push n)
  clear hb n
  go_wp2_with fail
  refine (rgcd_any _ _ xs ys _ (S.out.get (by simp)) (S.out.get (by simp)) (by omega) (by omega)).mono ?_
  rintro e w6 ⟨p2, rfl, n, hb⟩
  replace S := hide ((S.out.step hb).push n)
  clear hb n
  go_wp2_with fail
  refine (equal_yes _ _ (lim (Nat.gcd (val xs) (val ys))) _ (S.out.get (by simp)) (S.out.get (by simp))).mono ?_
  rintro e w7 ⟨rfl, hb⟩
  replace S := hide (S.out.step hb)
  clear hb
  go_wp2_with fail
  refine (kept_any _ _ xs _ ⟨gx, cx, rfl, S.out.get (by simp)⟩ (S.out.get (by simp)) (by omega)).mono ?_
  rintro e w8 ⟨rfl, hb⟩
  replace S := hide (S.out.step hb)
  clear hb
  go_wp2_with fail
  refine (kept_any _ _ ys _ ⟨gy, cy, rfl, S.out.get (by simp)⟩ (S.out.get (by simp)) (by omega)).mono ?_
  rintro e w9 ⟨rfl, hb⟩
  replace S := hide (S.out.step hb)
  clear hb
  go_wp2
  go_ret
  exact ⟨rfl, S.out.below⟩
end Go.Proofs.Ytcmdecodhpbpgaa
