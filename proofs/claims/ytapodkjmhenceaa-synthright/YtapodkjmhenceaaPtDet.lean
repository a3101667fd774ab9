/- Points: Norm, Det, One (the program's and the document's), and the statements' own live. -/
import Derived.Test.YtapodkjmhenceaaPtMath
namespace Go.Proofs.Ytapodkjmhenceaa
open Go.RowKit

theorem nboxp (t : TypeId) (w : World) (x y x' y' : Value) : Box2 ((w.alloc (.cells #[x, y] t)).alloc (.cells #[x', y'] t)) w.heap.size t x y ∧ Box2 ((w.alloc (.cells #[x, y] t)).alloc (.cells #[x', y'] t)) (w.heap.size + 1) t x' y' ∧ Below w.heap.size w ((w.alloc (.cells #[x, y] t)).alloc (.cells #[x', y'] t)) := by
  refine ⟨(Box2.new w _ _ _).step (below_alloc _ _), ?_, (below_alloc w _).trans ((below_alloc _ _).mono (by simp))⟩
  have := Box2.new (w.alloc (.cells #[x, y] t)) t x' y'
  rwa [World.size_alloc] at this

set_option maxRecDepth 100000 in
set_option maxHeartbeats 1000000 in
theorem norm_out (a b : Int) (w : World) (h : inB a b = false) :
    Calls Try.prog 68 #[.agg #[.int .i64 a, .int .i64 b]] w fun e w' => e = .returned (.tuple #[.agg #[.int .i64 0, .int .i64 0], .int .i64 2]) ∧ Below w.heap.size w w' := by
  have HX := hide (nboxp 61 w (.int .i64 a) (.int .i64 b) (.int .i64 0) (.int .i64 0))
  go_enter Try.func68, Try.ntmps68
  go_wp2_with fail
  refine (in_any a b _).mono ?_
  rintro e w1 ⟨rfl, hb⟩
  have X2 := hide (HX.out.2.1.step hb)
  have HB := hide (HX.out.2.2.trans (hb.mono HX.out.2.2.size))
  have d0 := X2.out.cell0
  have d1 := X2.out.cell1
  have f0 := X2.out.free 0
  have f1 := X2.out.free 1
  rw [h]
  clear hb HX
  go_wp2
  refine ret_pte rfl (w.heap.size + 1) _ _ rfl ((X2.out.set0 _).set1 _) rfl ?_
  exact ⟨rfl, (HB.out.setCell (p := ⟨w.heap.size + 1, 0, none⟩) (by simp) _).setCell (p := ⟨w.heap.size + 1, 1, none⟩) (by simp) _⟩

set_option maxRecDepth 100000 in
set_option maxHeartbeats 1000000 in
theorem norm_in (a b : Int) (w : World) (h : inB a b = true) :
    Calls Try.prog 68 #[.agg #[.int .i64 a, .int .i64 b]] w fun e w' => e = .returned (.tuple #[.agg #[.int .i64 (nA a b), .int .i64 (nB a b)], .int .i64 0]) ∧ Below w.heap.size w w' := by
  have HX := hide (nboxp 61 w (.int .i64 a) (.int .i64 b) (.int .i64 0) (.int .i64 0))
  have HI := hide (in_yes h)
  go_enter Try.func68, Try.ntmps68
  go_wp2_with fail
  refine (in_any a b _).mono ?_
  rintro e w1 ⟨rfl, hb⟩
  have X1 := hide (HX.out.1.step hb)
  have X2 := hide (HX.out.2.1.step hb)
  have HB := hide (HX.out.2.2.trans (hb.mono HX.out.2.2.size))
  have c0 := X1.out.cell0
  have c1 := X1.out.cell1
  rw [h]
  clear hb HX
  go_wp2_with fail
  refine (norm0_any a b _ HI.out.1.1 HI.out.1.2 HI.out.2.1 HI.out.2.2).mono ?_
  rintro e w2 ⟨rfl, hb⟩
  replace X2 := hide (X2.out.step hb)
  replace HB := hide (HB.out.trans (hb.mono HB.out.size))
  have d0 := X2.out.cell0
  have d1 := X2.out.cell1
  have f0 := X2.out.free 0
  have f1 := X2.out.free 1
  clear hb X1 c0 c1
  go_wp2
  refine ret_pte rfl (w.heap.size + 1) _ _ rfl ((X2.out.set0 _).set1 _) rfl ?_
  exact ⟨rfl, (HB.out.setCell (p := ⟨w.heap.size + 1, 0, none⟩) (by simp) _).setCell (p := ⟨w.heap.size + 1, 1, none⟩) (by simp) _⟩

end Go.Proofs.Ytapodkjmhenceaa
