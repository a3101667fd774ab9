/- integer.Int's DivMod by 0, and Over. -/
import Derived.Test.YteogbhgogiaocaaDoorIDiv
import Derived.Test.YteogbhgogiaocaaDoorIRead
namespace Go.Proofs.YteogbhgogiaocaaDoor
open Go.RowKit

set_option maxRecDepth 100000 in
set_option maxHeartbeats 2000000 in
theorem idivmod_zero (v1 v2 : Value) (x : Int) (w : World) (h1 : IntAt w v1 x) (h2 : IntAt w v2 0) :
    Calls Tryd.prog 26 #[v1, v2] w fun e w' => ∃ q r, e = .returned (.tuple #[q, r, .int .i64 2]) ∧ IntAt w' q 0 ∧ IntAt w' r 0 ∧ Below w.heap.size w w' := by
  obtain ⟨b1, n1, a1, c1, rfl, hn1, rfl, h01⟩ := h1
  obtain ⟨b2, n2, a2, c2, rfl, hn2, he2, h02⟩ := h2
  have e2 : n2 = 0 := by have := congrArg Int.natAbs he2; rw [sg_abs] at this; simpa using this.symm
  subst e2
  have HE := hide (boxes4 w (.bool b1) (.slice a1 (lim n1).length c1) (.bool b2) (.slice a2 (lim 0).length c2) (.bool false) (.slice none 0 0) (.bool false) (.slice none 0 0) _ rfl)
  have HN1 := hide (hn1.below HE.out.2.2.2.2)
  have HN2 := hide (hn2.below HE.out.2.2.2.2)
  clear hn1 h01 hn2 h02 he2
  go_enter Tryd.func26, Tryd.ntmps26
  go_wp2_with fail
  refine (divmod_zero _ _ (lim n1) (lim 0) _ HN1.out HN2.out (by rw [val_lim])).mono ?_
  rintro e w1 ⟨rfl, rfl⟩
  have P2 := hide HE.out.2.2.1
  have P3 := hide HE.out.2.2.2.1
  have HB := hide HE.out.2.2.2.2
  clear HE HN1 HN2
  go_wp2
  refine ret_div rfl (w.heap.size + 1 + 1) (w.heap.size + 1 + 1 + 1) _ _ _ _ rfl rfl P2.out P3.out rfl ?_
  exact ⟨_, _, rfl, int_zero _, int_zero _, HB.out⟩

/-- what Over answers -/
def IOv (x c z a : Int) : Prop := (c = 0 ∧ z = 0 ∧ a = 2) ∨ (c ≠ 0 ∧ x % c ≠ 0 ∧ z = 0 ∧ a = 20) ∨ (c ≠ 0 ∧ x % c = 0 ∧ z = x / c ∧ a = 0)

end Go.Proofs.YteogbhgogiaocaaDoor
