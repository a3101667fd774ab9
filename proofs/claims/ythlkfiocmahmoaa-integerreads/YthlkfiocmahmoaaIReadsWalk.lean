/- swagelaw02.IntegerReads answers true at all texts, and turns nothing that was there. -/
import Derived.Test.YthlkfiocmahmoaaR2Read
import Derived.Test.YthlkfiocmahmoaaIZero
import Derived.Deep.Cut
namespace Go.Proofs.Ythlkfiocmahmoaa
open Go.RowKit

theorem bbp (k : Nat) : 0 < BB ^ k := Nat.pow_pos BB_pos
/-- a text of up to 400 signs reads as a number of up to 400 limbs -/
theorem IRd.sz {s : ByteArray} {z : Int} {a b : Nat} {K : Nat} (h : IRd s z a b) (hs : s.size ≤ K) : SzI K z := by
  unfold SzI
  have hp := bbp K
  rcases h with ⟨_, rfl, _⟩ | ⟨_, _, _, rfl, _⟩ | ⟨_, _, xs, c, d, hr, h3⟩
  · exact hp
  · exact hp
  · rcases h3 with ⟨_, rfl, _⟩ | ⟨rfl, rfl, _⟩
    · exact hp
    rw [sg_abs]
    rcases hr with ⟨_, _, h, _⟩ | ⟨_, _, h, _⟩ | ⟨_, i, _, _, _, _, h, _⟩ | ⟨_, g0, g, rfl, _, _⟩
    · omega
    · omega
    · omega
    rw [val_lim]
    have h1 := nv_lt _ _ g
    have h2 := cutP_size s 45
    exact Nat.lt_of_lt_of_le h1 (Nat.le_trans (Nat.pow_le_pow_right (by decide) (show (cutP s 45).size ≤ K by omega)) (Nat.pow_le_pow_left (by decide) _))
theorem IRd.err {s : ByteArray} {z : Int} {a b : Nat} (h : IRd s z a b) (hs : s.size ≤ 400) (ha : a ≠ 0) : a = 6 ∧ z = 0 := by
  rcases h with ⟨h, _, _⟩ | ⟨_, _, _, rfl, rfl, _⟩ | ⟨_, _, xs, c, d, hr, h3⟩
  · omega
  · exact ⟨rfl, rfl⟩
  · rcases h3 with ⟨hc, rfl, rfl, _⟩ | ⟨_, _, h, _⟩
    · have h2 := cutP_size s 45
      rcases hr with ⟨h, _⟩ | ⟨_, _, rfl, _⟩ | ⟨_, i, _, _, _, _, rfl, _⟩ | ⟨_, _, _, _, h, _⟩
      · omega
      · exact ⟨rfl, rfl⟩
      · exact ⟨rfl, rfl⟩
      · exact absurd h hc
    · exact absurd h ha

set_option maxRecDepth 100000 in
set_option maxHeartbeats 8000000 in
theorem ireads_walk (s : ByteArray) (w : World) (hs : s.size ≤ 9223372036854775807) :
    Calls Try.prog 7 #[.string s] w fun e w' => e = .returned (.bool true) ∧ Below w.heap.size w w' := by
  go_enter Try.func7, Try.ntmps7
  go_wp2_with fail
  refine (live_any _).mono ?_
  rintro e w1 ⟨rfl, hb⟩
  have HB := hide (hb)
  clear hb
  by_cases hlen : 400 < s.size
  · go_wp2
    go_ret
    exact ⟨rfl, HB.out⟩
  have hlI : ¬ (400 : Int) < (s.size : Int) := by omega
  go_wp2_with fail
  refine (iread_any s _ (by omega)).mono ?_
  rintro e u1 ⟨v, z, a, b, rfl, nI, hrd, hb⟩
  have HRD := hide hrd
  have SX := hide (hrd.sz (K := 400) (by omega))
  have HZE := hide (hrd.err (by omega))
  skip
  obtain ⟨sy, my, ny, cy, rfl, nI⟩ := nI.cells
  replace HB := hide (HB.out.trans ((hb).mono HB.out.size))
  have TX := hide (nI)
  clear hb nI hrd
  go_upto_region 6 with fail
  replace HB := hide (HB.out.trans ((below_alloc u1 (.cells #[.bool sy, .slice my ny cy] 28)).mono HB.out.size))
  replace TX := hide (TX.out.below (below_alloc u1 (.cells #[.bool sy, .slice my ny cy] 28)))
  have VX := hide (Box.new u1 (.bool sy) (.slice my ny cy))
  replace HB := hide (HB.out.trans ((below_alloc (u1.alloc (.cells #[.bool sy, .slice my ny cy] 28)) (.cells #[.int .i64 (a : Nat), .int .i64 (b : Nat)] 63)).mono HB.out.size))
  replace TX := hide (TX.out.below (below_alloc (u1.alloc (.cells #[.bool sy, .slice my ny cy] 28)) (.cells #[.int .i64 (a : Nat), .int .i64 (b : Nat)] 63)))
  replace VX := hide (VX.out.step (below_alloc (u1.alloc (.cells #[.bool sy, .slice my ny cy] 28)) (.cells #[.int .i64 (a : Nat), .int .i64 (b : Nat)] 63)))
  have VS := hide (Box2.new (u1.alloc (.cells #[.bool sy, .slice my ny cy] 28)) 63 (.int .i64 (a : Nat)) (.int .i64 (b : Nat)))
  rw [World.size_alloc] at VS
  generalize (u1.alloc (.cells #[.bool sy, .slice my ny cy] 28)).alloc (.cells #[.int .i64 (a : Nat), .int .i64 (b : Nat)] 63) = w9 at *
  generalize u1.heap.size = gx at *
  go_wp2_with fail
  refine (rread2_any s _ (by omega)).mono ?_
  rintro e u2 ⟨v2, z2, p2, rfl, nR, hor, hb⟩
  obtain ⟨s2, n2, m2, c2, rfl, hn2, he2, h02⟩ := nR
  replace HB := hide (HB.out.trans ((hb).mono HB.out.size))
  replace TX := hide (TX.out.below (hb))
  replace VX := hide (VX.out.step (hb))
  replace VS := hide (VS.out.step (hb))
  have nR : RInt u2 (.agg #[.bool s2, .slice m2 (D.lim n2).length c2]) z2 := ⟨s2, n2, m2, c2, rfl, hn2, he2, h02⟩
  clear hn2 he2 h02 hb
  generalize (D.lim n2).length = l2 at *
  have TR := hide (nR)
  clear nR
  go_upto_region 7 with fail
  replace HB := hide (HB.out.trans ((below_alloc u2 (.cells #[.bool s2, .slice m2 l2 c2] 30)).mono HB.out.size))
  replace TX := hide (TX.out.below (below_alloc u2 (.cells #[.bool s2, .slice m2 l2 c2] 30)))
  replace VX := hide (VX.out.step (below_alloc u2 (.cells #[.bool s2, .slice m2 l2 c2] 30)))
  replace VS := hide (VS.out.step (below_alloc u2 (.cells #[.bool s2, .slice m2 l2 c2] 30)))
  replace TR := hide (TR.out.below (below_alloc u2 (.cells #[.bool s2, .slice m2 l2 c2] 30)))
  have VR := hide (Box2.new u2 30 (.bool s2) (.slice m2 l2 c2))
  generalize u2.alloc (.cells #[.bool s2, .slice m2 l2 c2] 30) = w10 at *
  generalize u2.heap.size = gr at *
  rcases hor with ⟨a', b', hr, ha, rfl, rfl⟩ | ⟨hr, rfl⟩
  · obtain ⟨rfl, rfl, rfl⟩ := HRD.out.same hr
    obtain ⟨rfl, _⟩ := HZE.out ha
    clear hr ha
    have x0 := VX.out.cell0
    have x1 := VX.out.cell1
    go_wp2_with fail
    refine (zero_yes _ _ TX.out).mono ?_
    rintro e u3 ⟨rfl, hb⟩
    clear x0 x1
    replace HB := hide (HB.out.trans ((hb).mono HB.out.size))
    replace TX := hide (TX.out.below (hb))
    replace VX := hide (VX.out.step (hb))
    replace VS := hide (VS.out.step (hb))
    replace TR := hide (TR.out.below (hb))
    replace VR := hide (VR.out.step (hb))
    clear hb
    have s0 := VS.out.cell0
    have s1 := VS.out.cell1
    go_wp2
    go_ret
    exact ⟨rfl, HB.out⟩
  · obtain ⟨rfl, rfl, rfl⟩ := HRD.out.same hr
    have HTO := hide hr.told
    clear hr
    have x0 := VX.out.cell0
    have x1 := VX.out.cell1
    have y0 := VR.out.cell0
    have y1 := VR.out.cell1
    go_wp2_with fail
    refine (is_yes _ _ z _ TX.out TR.out (SzI.len SX.out (by decide)) (Nat.le_trans (SzI.dlen SX.out (by decide)) (by decide))).mono ?_
    rintro e u3 ⟨rfl, hb⟩
    clear x0 x1 y0 y1
    replace HB := hide (HB.out.trans ((hb).mono HB.out.size))
    replace TX := hide (TX.out.below (hb))
    replace VX := hide (VX.out.step (hb))
    replace VS := hide (VS.out.step (hb))
    replace TR := hide (TR.out.below (hb))
    replace VR := hide (VR.out.step (hb))
    clear hb
    have s0 := VS.out.cell0
    have s1 := VS.out.cell1
    have x0 := VX.out.cell0
    have x1 := VX.out.cell1
    go_wp2_with fail
    refine (itext_any _ z _ TX.out (SzI.len SX.out (by decide))).mono ?_
    rintro e u4 ⟨rfl, hb⟩
    clear x0 x1 s0 s1
    replace HB := hide (HB.out.trans ((hb).mono HB.out.size))
    replace TX := hide (TX.out.below (hb))
    replace VX := hide (VX.out.step (hb))
    replace VS := hide (VS.out.step (hb))
    replace TR := hide (TR.out.below (hb))
    replace VR := hide (VR.out.step (hb))
    clear hb
    rw [HTO.out.1]
    go_wp2
    go_ret
    exact ⟨rfl, HB.out⟩
end Go.Proofs.Ythlkfiocmahmoaa
