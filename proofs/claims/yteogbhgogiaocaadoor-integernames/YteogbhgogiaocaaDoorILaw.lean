/- What the laws of layer 2 share: live answers true; long tells whether one of the numbers is long. -/
import Derived.Test.YteogbhgogiaocaaDoorISum
namespace Go.Proofs.YteogbhgogiaocaaDoor
open Go.RowKit

set_option maxRecDepth 100000 in
set_option maxHeartbeats 400000 in
theorem live_any (w : World) : Calls Tryd.prog 5 #[] w fun e w' => e = .returned (.bool true) ∧ Below w.heap.size w w' := by
  go_enter Tryd.func5, Tryd.ntmps5
  go_wp2_with fail
  refine (iof_any (-7) _ (by decide) (by decide)).mono ?_
  rintro e w1 ⟨v1, rfl, n1, hb1⟩
  have HB1 := hide hb1
  clear hb1
  go_wp2_with fail
  refine (iof_any 2 _ (by decide) (by decide)).mono ?_
  rintro e w2 ⟨v2, rfl, n2, hb2⟩
  have HN1 := hide (n1.below hb2)
  have HB2 := hide (HB1.out.trans (hb2.mono HB1.out.size))
  have HN2 := hide n2
  clear hb2 n1 n2
  go_wp2_with fail
  refine (iadd_any _ _ (-7) 2 _ HN1.out HN2.out (Nat.le_trans (lim_length_le (k := 1) (by decide)) (by decide)) (Nat.le_trans (lim_length_le (k := 1) (by decide)) (by decide))).mono ?_
  rintro e w3 ⟨v3, rfl, n3, hb3⟩
  have HB3 := hide (HB2.out.trans (hb3.mono HB2.out.size))
  have HN3 := hide n3
  clear hb3 n3
  go_wp2_with fail
  refine (ismall_any _ _ _ HN3.out).mono ?_
  rintro e w4 ⟨he, hb4⟩
  rw [smallOf_yes (by decide)] at he
  subst he
  have HB4 := hide (HB3.out.trans (hb4.mono HB3.out.size))
  clear hb4
  go_wp2
  go_ret
  exact ⟨rfl, HB4.out⟩

end Go.Proofs.YteogbhgogiaocaaDoor
