/- swagelaw02.zero: true of 0. -/
import Derived.Test.YtmibgcpafccliaaDoorR2Is
import Derived.Test.YtmibgcpafccliaaDoorR2Law
namespace Go.Proofs.YtmibgcpafccliaaDoor
open Go.RowKit

theorem rint0 (w : World) : RInt w (.agg #[.bool false, .slice none 0 0]) 0 := ⟨false, 0, none, 0, rfl, Nums.nil_mk _ _ _ (Nat.zero_le _), rfl, fun _ => rfl⟩

set_option maxRecDepth 100000 in
set_option maxHeartbeats 2000000 in
theorem zero_yes (v : Value) (w : World) (h : IntAt w v 0) :
    Calls Tryd.prog 33 #[v] w fun e w' => e = .returned (.bool true) ∧ Below w.heap.size w w' := by
  have I1 := hide h
  obtain ⟨b, n, a, c, rfl, hn, e1, h0⟩ := h
  have P0 := hide (Box.new w (.bool b) (.slice a (lim n).length c))
  have HB := hide (below_alloc w (.cells #[.bool b, .slice a (lim n).length c] 44))
  replace I1 := hide (I1.out.below HB.out)
  clear hn h0 e1
  have p0 := P0.out.cell0
  have p1 := P0.out.cell1
  go_enter Tryd.func33, Tryd.ntmps33
  go_wp2_with fail
  refine (is_yes _ _ 0 _ I1.out (rint0 _) (by decide) (by decide)).mono ?_
  rintro e w1 ⟨rfl, hb⟩
  replace HB := hide (HB.out.trans (hb.mono HB.out.size))
  replace P0 := hide (P0.out.step hb)
  replace I1 := hide (I1.out.below hb)
  clear hb p0 p1
  have p0 := P0.out.cell0
  have p1 := P0.out.cell1
  go_wp2_with fail
  refine (isign_any _ 0 _ I1.out).mono ?_
  rintro e w2 ⟨rfl, hb⟩
  replace HB := hide (HB.out.trans (hb.mono HB.out.size))
  clear hb p0 p1
  rw [show sgnI 0 = 0 from rfl]
  go_wp2
  go_ret
  exact ⟨rfl, HB.out⟩
end Go.Proofs.YtmibgcpafccliaaDoor
