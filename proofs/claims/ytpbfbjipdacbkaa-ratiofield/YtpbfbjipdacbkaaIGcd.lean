/- integer.Int's Gcd. -/
import Derived.Test.YtpbfbjipdacbkaaIDiv
namespace Go.Proofs.Ytpbfbjipdacbkaa
open Go.RowKit

set_option maxRecDepth 100000 in
set_option maxHeartbeats 1000000 in
theorem igcd_any (v1 v2 : Value) (x y : Int) (w : World) (h1 : IntAt w v1 x) (h2 : IntAt w v2 y) (l1 : (lim x.natAbs).length ≤ 1000000000) (l2 : (lim y.natAbs).length ≤ 1000000000) :
    Calls Try.prog 61 #[v1, v2] w fun e w' => ∃ v', e = .returned v' ∧ IntAt w' v' (Int.gcd x y : Int) ∧ Below w.heap.size w w' := by
  obtain ⟨b1, n1, a1, c1, rfl, hn1, rfl, h01⟩ := h1
  obtain ⟨b2, n2, a2, c2, rfl, hn2, rfl, h02⟩ := h2
  have HE := hide (boxes3 w (.bool b1) (.slice a1 (lim n1).length c1) (.bool b2) (.slice a2 (lim n2).length c2) (.bool false) (.slice none 0 0))
  have HN1 := hide (hn1.below HE.out.2.2.2)
  have HN2 := hide (hn2.below HE.out.2.2.2)
  rw [sg_abs] at l1 l2
  clear hn1 h01 hn2 h02
  go_enter Try.func61, Try.ntmps61
  go_wp2_with fail
  refine (gcd_any _ _ (lim n1) (lim n2) _ HN1.out HN2.out l1 l2).mono ?_
  rintro e w1 ⟨v, rfl, m1, hb1⟩
  rw [val_lim, val_lim] at m1
  have HM := hide m1
  have HX := hide (HE.out.2.2.1.step hb1)
  have HB := hide (HE.out.2.2.2.trans (hb1.mono HE.out.2.2.2.size))
  clear m1 hb1 HE
  go_wp2_with fail
  refine (made_any false (Nat.gcd n1 n2) _ _ HM.out).mono ?_
  rintro e w2 ⟨v, rfl, ⟨b', n', a', c', rfl, hn', he, h0⟩, hb2⟩
  replace HX := hide (HX.out.step hb2)
  replace HB := hide (HB.out.trans (hb2.mono HB.out.size))
  have hc0 := HX.out.cell0
  have hc1 := HX.out.cell1
  have hf0 := HX.out.free 0
  have hf1 := HX.out.free 1
  clear hb2
  go_wp2
  refine ret_int rfl (w.heap.size + 1 + 1) _ _ _ _ rfl ((HX.out.set0 _).set1 _) rfl ?_
  exact handed HX.out (by simp) (by simp) (by omega) HB.out hn' (by rw [← he]; simp [Int.gcd, sg_abs]) h0
end Go.Proofs.Ytpbfbjipdacbkaa
