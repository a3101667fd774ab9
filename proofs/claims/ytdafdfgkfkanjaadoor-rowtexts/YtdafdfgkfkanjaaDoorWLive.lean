/- swagelaw04.live: the one answer that the document fixes. -/
import Derived.Test.YtdafdfgkfkanjaaDoorWText
namespace Go.Proofs.YtdafdfgkfkanjaaDoor
open Go.RowKit

theorem longs2 (w : World) (a b : Int) (t : TypeId) (ha : -9223372036854775808 ≤ a ∧ a ≤ 9223372036854775807) (hb : -9223372036854775808 ≤ b ∧ b ≤ 9223372036854775807) : Longs (w.alloc (.cells #[.int .i64 a, .int .i64 b] t)) (.slice (some ⟨w.heap.size, 0, none⟩) 2 2) [a, b] := by
  have hh : (w.alloc (.cells #[.int .i64 a, .int .i64 b] t)).heap[w.heap.size]? = some (.cells #[.int .i64 a, .int .i64 b] t (0, 0)) := heap_alloc_new _ _
  generalize w.alloc (.cells #[.int .i64 a, .int .i64 b] t) = W at *
  refine ⟨_, 2, rfl, Nat.le_refl _, by decide, fun i hi => ?_, fun _ => ⟨_, 0, rfl, fun i hi => ?_⟩⟩
  · match i, hi with
    | 0, _ => exact ha
    | 1, _ => exact hb
  · unfold World.cell?
    simp only [hh]
    match i, hi with
    | 0, _ => rfl
    | 1, _ => rfl
theorem lj : Lib.join (([4, -2] : List Int).map fun z => (itxt z).data.toList) [32] = [52, 32, 45, 50] := by kernel_rfl
theorem lt4 : wtxt [4, -2] = ⟨#[91, 52, 32, 45, 50, 93]⟩ := by kernel_rfl
theorem szl_lit {xs : List Int} (h : ∀ i, i < xs.length → SzI 1 (xs.getD i 0)) : SzL 1 xs := by
  intro i
  rcases Nat.lt_or_ge i xs.length with hi | hi
  · exact h i hi
  · rw [List.getD_eq_getElem?_getD, List.getElem?_eq_none hi]; show SzI 1 0; unfold SzI; decide

set_option maxRecDepth 100000 in
set_option maxHeartbeats 2000000 in
theorem rlive_any (w : World) : Calls Tryd.prog 6 #[] w fun e w' => e = .returned (.bool true) ∧ Below w.heap.size w w' := by
  have hA := longs2 w 1 2 2 (by decide) (by decide)
  have HA := hide hA
  have HB := hide (below_alloc w (.cells #[.int .i64 1, .int .i64 2] 2))
  clear hA
  go_enter Tryd.func6, Tryd.ntmps6
  go_wp2_with fail
  refine (rof_row _ [1, 2] _ HA.out (by decide)).mono ?_
  rintro e w1 ⟨rfl, hr, hb⟩
  have R1 := hide hr
  replace HB := hide (HB.out.trans (hb.mono HB.out.size))
  clear hr hb HA
  generalize (w.alloc (.cells #[.int .i64 1, .int .i64 2] 2)).heap.size + 1 = g1 at *
  have HA := hide (longs2 w1 3 (-4) 2 (by decide) (by decide))
  replace R1 := hide (R1.out.step (below_alloc w1 (.cells #[.int .i64 3, .int .i64 (-4)] 2)))
  replace HB := hide (HB.out.trans ((below_alloc w1 (.cells #[.int .i64 3, .int .i64 (-4)] 2)).mono HB.out.size))
  go_wp2_with fail
  refine (rof_row _ [3, -4] _ HA.out (by decide)).mono ?_
  rintro e w2 ⟨rfl, hr, hb⟩
  have R2 := hide hr
  replace R1 := hide (R1.out.step hb)
  replace HB := hide (HB.out.trans (hb.mono HB.out.size))
  clear hr hb HA
  generalize (w1.alloc (.cells #[.int .i64 3, .int .i64 (-4)] 2)).heap.size + 1 = g2 at *
  go_wp2_with fail
  refine (radd_any _ _ [1, 2] [3, -4] 1 _ (R1.out.ints (by decide)) (R2.out.ints (by decide)) rfl (by decide) (szl_lit fun i hi => ?_) (szl_lit fun i hi => ?_) (by decide)).mono ?_
  · match i, hi with
    | 0, _ => show SzI 1 1; unfold SzI; decide
    | 1, _ => show SzI 1 2; unfold SzI; decide
  · match i, hi with
    | 0, _ => show SzI 1 3; unfold SzI; decide
    | 1, _ => show SzI 1 (-4); unfold SzI; decide
  rintro e w3 ⟨b, rfl, hsb, hr, hb⟩
  replace hr : IRow w3 b [4, -2] := hr
  have R3 := hide hr
  replace HB := hide (HB.out.trans (hb.mono HB.out.size))
  clear hr hb R1 R2 hsb
  go_wp2_with fail
  refine (rtext_any _ [4, -2] _ (R3.out.ints (by decide)) (by decide) (fun i => ?_) (by rw [lj]; decide)).mono ?_
  · match i with
    | 0 => decide
    | 1 => decide
    | i + 2 => show (lim (Int.natAbs 0)).length ≤ _; decide
  rintro e w4 ⟨rfl, hb⟩
  replace HB := hide (HB.out.trans (hb.mono HB.out.size))
  rw [lt4]
  clear hb R3
  go_wp2
  go_ret
  exact ⟨rfl, HB.out⟩
end Go.Proofs.YtdafdfgkfkanjaaDoor
