/- swagelaw01.works answers true. -/
import Derived.Test.YtmibgcpafccliaaDoorText
import Derived.Test.YtmibgcpafccliaaDoorLims
import Derived.Test.YtmibgcpafccliaaDoorEqual
namespace Go.Proofs.YtmibgcpafccliaaDoor
open Go.RowKit

theorem w_a : lim (val [4294967295] * val [4294967295, 0]) = [1, 4294967294] := lim2 (by decide) (by decide) (by decide) (by decide)
theorem w_s : val [1, 4294967294] + val [5] = 18446744065119617030 := by decide
theorem w_s2 : lim 18446744065119617030 = [6, 4294967294] := lim2 (by decide) (by decide) (by decide) (by decide)
theorem w_6 : lim (val [6, 4294967294]) = [6, 4294967294] := lim2 (by decide) (by decide) (by decide) (by decide)
theorem w_g : lim (val [4294967295]) = [4294967295] := lim1 (by decide) (by decide)
theorem w_q : lim (val [6, 4294967294] / val [4294967295]) = [4294967295] := lim1 (by decide) (by decide)
theorem w_r : lim (val [6, 4294967294] % val [4294967295]) = [5] := lim1 (by decide) (by decide)
theorem w_n : nd 18446744065119617025 = 19 := nd_unique (by decide) (.inr (by decide))
theorem w_t : txt (val [1, 4294967294]) = ⟨#[49, 56, 52, 52, 54, 55, 52, 52, 48, 54, 53, 49, 49, 57, 54, 49, 55, 48, 50, 53]⟩ := by
  have e : val [1, 4294967294] = 18446744065119617025 := by decide
  unfold txt dec
  rw [e, w_n]
  decide

set_option maxRecDepth 100000 in
set_option maxHeartbeats 2000000 in
theorem works_any (w : World) : Calls Tryd.prog 6 #[] w fun e w' => e = .returned (.bool true) ∧ Below w.heap.size w w' := by
  go_enter Tryd.func6, Tryd.ntmps6
  go_wp2_with fail
  have n1 : Nums (w.alloc (.cells #[.int .u32 4294967295] 32)) (.slice (some ⟨w.heap.size, 0, none⟩) 1 1) [4294967295] := nums_lit1 w _ _ _ rfl (by decide)
  have n2 := nums_lit2 (w.alloc (.cells #[.int .u32 4294967295] 32)) 32 4294967295 0 4294967295 0 rfl rfl (by decide) (by decide)
  rw [World.size_alloc] at n2
  refine (mul_any _ _ _ _ _ (n1.below (below_alloc _ _)) n2 (by simp) (by simp)).mono ?_
  rintro e w1 ⟨v1, rfl, m1, hb1⟩
  rw [w_a] at m1
  have HB1 : Hid (Below w.heap.size w w1) := (below_alloc w _).trans (((below_alloc _ _).trans (hb1.mono (by simp))).mono (by simp))
  clear n1 n2 hb1
  go_wp2_with fail
  refine (add_any _ _ [1, 4294967294] [5] _ (m1.below (below_alloc _ _)) (nums_lit1 _ _ _ _ rfl (by decide)) (by simp) (by simp)).mono ?_
  rintro e w2 ⟨v2, rfl, m2, hb2⟩
  rw [w_s, w_s2] at m2
  have HM1 := hide ((m1.below (below_alloc _ _)).below hb2)
  have HB2 : Hid (Below w.heap.size w w2) := HB1.out.trans (((below_alloc _ _).trans (hb2.mono (by simp))).mono HB1.out.size)
  clear m1 hb2 HB1
  go_wp2_with fail
  refine (divmod_one _ _ [6, 4294967294] [4294967295] _ (m2.below (below_alloc _ _)) (nums_lit1 _ _ _ _ rfl (by decide)) (by simp) (by rw [w_g, w_6]; simp) (by rw [w_g]; rfl)).mono ?_
  rintro e w3 ⟨v3, v4, rfl, m3, m4, hb3⟩
  rw [w_q] at m3
  rw [w_r] at m4
  have HM1' := hide ((HM1.out.below (below_alloc _ _)).below hb3)
  have HM3 := hide m3
  have HM4 := hide m4
  have HB3 : Hid (Below w.heap.size w w3) := HB2.out.trans (((below_alloc _ _).trans (hb3.mono (by simp))).mono HB2.out.size)
  clear m3 m4 m2 hb3 HB2 HM1
  go_wp2_with fail
  refine (equal_yes _ _ [1, 4294967294] _ (HM1'.out.below (below_alloc _ _)) (nums_lit2 _ _ _ _ _ _ rfl rfl (by decide) (by decide))).mono ?_
  rintro e w4 ⟨rfl, hb4⟩
  have HN1 := hide ((HM1'.out.below (below_alloc _ _)).below hb4)
  have HN3 := hide ((HM3.out.below (below_alloc _ _)).below hb4)
  have HN4 := hide ((HM4.out.below (below_alloc _ _)).below hb4)
  have HB4 : Hid (Below w.heap.size w w4) := HB3.out.trans (((below_alloc _ _).trans (hb4.mono (by simp))).mono HB3.out.size)
  clear hb4 HB3 HM1' HM3 HM4
  go_wp2_with fail
  refine (equal_yes _ _ [4294967295] _ (HN3.out.below (below_alloc _ _)) (nums_lit1 _ _ _ _ rfl (by decide))).mono ?_
  rintro e w5 ⟨rfl, hb5⟩
  have HP1 := hide ((HN1.out.below (below_alloc _ _)).below hb5)
  have HP4 := hide ((HN4.out.below (below_alloc _ _)).below hb5)
  have HB5 : Hid (Below w.heap.size w w5) := HB4.out.trans (((below_alloc _ _).trans (hb5.mono (by simp))).mono HB4.out.size)
  clear hb5 HB4 HN1 HN3 HN4
  go_wp2_with fail
  refine (equal_yes _ _ [5] _ (HP4.out.below (below_alloc _ _)) (nums_lit1 _ _ _ _ rfl (by decide))).mono ?_
  rintro e w6 ⟨rfl, hb6⟩
  have HQ1 := hide ((HP1.out.below (below_alloc _ _)).below hb6)
  have HB6 : Hid (Below w.heap.size w w6) := HB5.out.trans (((below_alloc _ _).trans (hb6.mono (by simp))).mono HB5.out.size)
  clear hb6 HB5 HP1 HP4
  go_wp2_with fail
  refine (text_any _ [1, 4294967294] _ HQ1.out (by simp)).mono ?_
  rintro e w7 ⟨rfl, hb7⟩
  rw [w_t]
  have HB7 : Hid (Below w.heap.size w w7) := HB6.out.trans (hb7.mono HB6.out.size)
  clear hb7 HB6 HQ1
  go_wp2
  go_ret
  exact ⟨rfl, HB7.out⟩
end Go.Proofs.YtmibgcpafccliaaDoor
