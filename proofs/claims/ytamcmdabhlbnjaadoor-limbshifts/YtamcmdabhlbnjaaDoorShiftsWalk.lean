/- swagelaw01.LimbShifts answers true at all lists of limbs and all numbers of bits, and turns nothing that was there. -/
import Derived.Test.YtamcmdabhlbnjaaDoorShPair
import Derived.Test.YtamcmdabhlbnjaaDoorRefCmp
import Derived.Test.YtamcmdabhlbnjaaDoorWorks
import Derived.Test.YtamcmdabhlbnjaaDoorLaw
namespace Go.Proofs.YtamcmdabhlbnjaaDoor
open Go.RowKit

set_option maxRecDepth 100000 in
set_option maxHeartbeats 8000000 in
theorem shifts_walk (v0 : Value) (xs : List Nat) (n : Int) (w : World) (h0 : Nums w v0 xs) (hnil : ∀ m c, v0 = .slice none m c → c = 0) (hn : -9223372036854775808 ≤ n ∧ n ≤ 9223372036854775807) (hT : TabW w) :
    Calls Tryd.prog 3 #[v0, .int .i64 n] w fun e w' => e = .returned (.bool true) ∧ Below w.heap.size w w' := by
  have S := hide (St.start.push h0)
  have HT := hide hT
  clear hT
  obtain ⟨o0, a0, c0, rfl, hl0, hm0, _⟩ := h0
  unfold maxLen at hm0
  have HNIL := hide hnil
  clear hnil
  go_enter Tryd.func3, Tryd.ntmps3
  go_wp2_with fail
  refine (works_any _).mono ?_
  rintro e w2 ⟨rfl, hb⟩
  replace S := hide (S.out.step hb)
  clear hb
  go_wp2_with fail
  have hls : ∀ W : World, Lists (W.alloc (.cells #[.slice a0 xs.length c0] 22)) W.heap.size [(a0, xs.length, c0)] := by
    intro W i hi'
    match i, hi' with
    | 0, _ => simp
  refine (long_any _ [(a0, xs.length, c0)] _ (hls _) (by simp) (by intro p hp; simp at hp; subst hp; dsimp only; omega)).mono ?_
  rintro e w3 ⟨rfl, rfl⟩
  replace S := hide (S.out.alloc (.cells #[.slice a0 xs.length c0] 22))
  clear hls
  by_cases g : 160 < xs.length
  · have hL : isLong [(a0, xs.length, c0)] = true := by simp [isLong]; omega
    rw [hL]
    clear hL g
    go_wp2
    go_ret
    exact ⟨rfl, S.out.below⟩
  have hL : isLong [(a0, xs.length, c0)] = false := by simp [isLong]; omega
  rw [hL]
  clear hL
  have g0 : xs.length ≤ 160 := by omega
  clear g
  obtain ⟨zb, hzb⟩ := bits_pair xs (by omega)
  have ZB := hide hzb
  obtain ⟨zt, hzt⟩ := twos_pair xs (by omega)
  have ZT := hide hzt
  obtain ⟨qb, hqb⟩ := bit_pair xs n hn.2
  have QB := hide hqb
  clear hzb hzt hqb
  go_wp2_with fail
  refine (room_any _ xs _ (S.out.get (by simp)) (by omega)).mono ?_
  rintro e w4 ⟨vgx, rfl, hr, hb⟩
  have n := hr.nums
  obtain ⟨gx, cx, rfl, hn2⟩ := hr
  replace S := hide (((S.out.step hb).push n).push hn2)
  clear hb n hn2
  by_cases gn : n < 0
  · have GN := hide gn
    go_wp2_with fail
    refine (shl_neg _ xs n _ (S.out.get (by simp)) gn).mono ?_
    rintro e w5 ⟨rfl, rfl⟩
    go_wp2_with fail
    refine (shr_neg _ xs n _ (S.out.get (by simp)) gn).mono ?_
    rintro e w6 ⟨rfl, rfl⟩
    go_wp2_with fail
    refine (ZB.out.1 _ _ (S.out.get (by simp))).mono ?_
    rintro e w7 ⟨rfl, hb⟩
    replace S := hide (S.out.step hb)
    clear hb
    go_wp2_with fail
    refine (ZB.out.2 _ _ (S.out.get (by simp))).mono ?_
    rintro e w8 ⟨rfl, hb⟩
    replace S := hide (S.out.step hb)
    clear hb
    go_wp2_with fail
    refine (QB.out.1 _ _ (S.out.get (by simp))).mono ?_
    rintro e w9 ⟨rfl, hb⟩
    replace S := hide (S.out.step hb)
    clear hb
    go_wp2_with fail
    refine (QB.out.2 _ _ (S.out.get (by simp))).mono ?_
    rintro e w10 ⟨rfl, hb⟩
    replace S := hide (S.out.step hb)
    clear hb
    go_wp2_with fail
    refine (ZT.out.1 _ _ (S.out.get (by simp)) (HT.out.below S.out.below)).mono ?_
    rintro e w11 ⟨rfl, hb⟩
    replace S := hide (S.out.step hb)
    clear hb
    go_wp2_with fail
    refine (ZT.out.2 _ _ (S.out.get (by simp))).mono ?_
    rintro e w12 ⟨rfl, hb⟩
    replace S := hide (S.out.step hb)
    clear hb
    go_wp2_with fail
    refine (kept_any _ _ xs _ ⟨gx, cx, rfl, S.out.get (by simp)⟩ (S.out.get (by simp)) (by omega)).mono ?_
    rintro e w13 ⟨rfl, hb⟩
    replace S := hide (S.out.step hb)
    clear hb
    go_wp2
    go_ret
    exact ⟨rfl, S.out.below⟩
  · obtain ⟨k, rfl⟩ : ∃ k : Nat, n = (k : Int) := ⟨n.toNat, by omega⟩
    by_cases gb : 65536 < k
    · have gbI : (65536 : Int) < (k : Int) := by omega
      go_wp2_with fail
      refine (shl_big _ xs k _ (S.out.get (by simp)) gb).mono ?_
      rintro e w5 ⟨rfl, rfl⟩
      go_wp2_with fail
      refine (shr_any _ xs k _ (S.out.get (by simp)) (by omega) (by omega)).mono ?_
      rintro e w6 ⟨r1, rfl, n, hb⟩
      replace S := hide ((S.out.step hb).push n)
      clear hb n
      go_wp2_with fail
      refine (ZB.out.1 _ _ (S.out.get (by simp))).mono ?_
      rintro e w7 ⟨rfl, hb⟩
      replace S := hide (S.out.step hb)
      clear hb
      go_wp2_with fail
      refine (ZB.out.2 _ _ (S.out.get (by simp))).mono ?_
      rintro e w8 ⟨rfl, hb⟩
      replace S := hide (S.out.step hb)
      clear hb
      go_wp2_with fail
      refine (QB.out.1 _ _ (S.out.get (by simp))).mono ?_
      rintro e w9 ⟨rfl, hb⟩
      replace S := hide (S.out.step hb)
      clear hb
      go_wp2_with fail
      refine (QB.out.2 _ _ (S.out.get (by simp))).mono ?_
      rintro e w10 ⟨rfl, hb⟩
      replace S := hide (S.out.step hb)
      clear hb
      go_wp2_with fail
      refine (ZT.out.1 _ _ (S.out.get (by simp)) (HT.out.below S.out.below)).mono ?_
      rintro e w11 ⟨rfl, hb⟩
      replace S := hide (S.out.step hb)
      clear hb
      go_wp2_with fail
      refine (ZT.out.2 _ _ (S.out.get (by simp))).mono ?_
      rintro e w12 ⟨rfl, hb⟩
      replace S := hide (S.out.step hb)
      clear hb
      go_wp2_with fail
      refine (kept_any _ _ xs _ ⟨gx, cx, rfl, S.out.get (by simp)⟩ (S.out.get (by simp)) (by omega)).mono ?_
      rintro e w13 ⟨rfl, hb⟩
      replace S := hide (S.out.step hb)
      clear hb
      go_wp2_with fail
      refine (rshr_any _ xs k _ (S.out.get (by simp)) (by omega) (by omega)).mono ?_
      rintro e w14 ⟨r2, rfl, n, hb⟩
      replace S := hide ((S.out.step hb).push n)
      clear hb n
      go_wp2_with fail
      refine (equal_yes _ _ (lim (val xs / 2 ^ k)) _ (S.out.get (by simp)) (S.out.get (by simp))).mono ?_
      rintro e w15 ⟨rfl, hb⟩
      replace S := hide (S.out.step hb)
      clear hb
      go_wp2
      go_ret
      exact ⟨rfl, S.out.below⟩
    · have gbI : ¬ (65536 : Int) < (k : Int) := by omega
      go_wp2_with fail
      refine (shl_any _ xs k _ (S.out.get (by simp)) (by omega) (by omega)).mono ?_
      rintro e w5 ⟨l1, rfl, n, hb⟩
      replace S := hide ((S.out.step hb).push n)
      clear hb n
      go_wp2_with fail
      refine (shr_any _ xs k _ (S.out.get (by simp)) (by omega) (by omega)).mono ?_
      rintro e w6 ⟨r1, rfl, n, hb⟩
      replace S := hide ((S.out.step hb).push n)
      clear hb n
      go_wp2_with fail
      refine (ZB.out.1 _ _ (S.out.get (by simp))).mono ?_
      rintro e w7 ⟨rfl, hb⟩
      replace S := hide (S.out.step hb)
      clear hb
      go_wp2_with fail
      refine (ZB.out.2 _ _ (S.out.get (by simp))).mono ?_
      rintro e w8 ⟨rfl, hb⟩
      replace S := hide (S.out.step hb)
      clear hb
      go_wp2_with fail
      refine (QB.out.1 _ _ (S.out.get (by simp))).mono ?_
      rintro e w9 ⟨rfl, hb⟩
      replace S := hide (S.out.step hb)
      clear hb
      go_wp2_with fail
      refine (QB.out.2 _ _ (S.out.get (by simp))).mono ?_
      rintro e w10 ⟨rfl, hb⟩
      replace S := hide (S.out.step hb)
      clear hb
      go_wp2_with fail
      refine (ZT.out.1 _ _ (S.out.get (by simp)) (HT.out.below S.out.below)).mono ?_
      rintro e w11 ⟨rfl, hb⟩
      replace S := hide (S.out.step hb)
      clear hb
      go_wp2_with fail
      refine (ZT.out.2 _ _ (S.out.get (by simp))).mono ?_
      rintro e w12 ⟨rfl, hb⟩
      replace S := hide (S.out.step hb)
      clear hb
      go_wp2_with fail
      refine (kept_any _ _ xs _ ⟨gx, cx, rfl, S.out.get (by simp)⟩ (S.out.get (by simp)) (by omega)).mono ?_
      rintro e w13 ⟨rfl, hb⟩
      replace S := hide (S.out.step hb)
      clear hb
      go_wp2_with fail
      refine (rshl_any _ xs k _ (S.out.get (by simp)) (by omega) (by omega) HNIL.out).mono ?_
      rintro e w14 ⟨l2, rfl, n, hb⟩
      replace S := hide ((S.out.step hb).push n)
      clear hb n
      go_wp2_with fail
      refine (equal_yes _ _ (lim (val xs * 2 ^ k)) _ (S.out.get (by simp)) (S.out.get (by simp))).mono ?_
      rintro e w15 ⟨rfl, hb⟩
      replace S := hide (S.out.step hb)
      clear hb
      go_wp2_with fail
      refine (rshr_any _ xs k _ (S.out.get (by simp)) (by omega) (by omega)).mono ?_
      rintro e w16 ⟨r2, rfl, n, hb⟩
      replace S := hide ((S.out.step hb).push n)
      clear hb n
      go_wp2_with fail
      refine (equal_yes _ _ (lim (val xs / 2 ^ k)) _ (S.out.get (by simp)) (S.out.get (by simp))).mono ?_
      rintro e w17 ⟨rfl, hb⟩
      replace S := hide (S.out.step hb)
      clear hb
      go_wp2
      go_ret
      exact ⟨rfl, S.out.below⟩
end Go.Proofs.YtamcmdabhlbnjaaDoor
