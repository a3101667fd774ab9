/- the document's Melt, where the first one's sort is 6 or 3. -/
import Derived.Test.YtlghhpgnhppoeaaDoorFoRp
import Derived.Test.YtlghhpgnhppoeaaDoorFoMe
namespace Go.Proofs.YtlghhpgnhppoeaaDoor
open Go.RowKit

set_option maxRecDepth 100000 in
set_option maxHeartbeats 16000000 in
theorem rmelt_6 (t aa ab ac bo bb bc : Int) (w : World) (hi : mayB ⟨6, t, aa, ab, ac⟩ 128 = true) (hj : mayB ⟨bo, t, t, bb, bc⟩ 128 = true) (h2 : twoB bo = false) :
    Calls Tryd.prog 25 #[.agg #[.int .i64 (⟨6, t, aa, ab, ac⟩ : Ins).op, .int .i64 (⟨6, t, aa, ab, ac⟩ : Ins).to, .int .i64 (⟨6, t, aa, ab, ac⟩ : Ins).a, .int .i64 (⟨6, t, aa, ab, ac⟩ : Ins).b, .int .i64 (⟨6, t, aa, ab, ac⟩ : Ins).c], .agg #[.int .i64 (⟨bo, t, t, bb, bc⟩ : Ins).op, .int .i64 (⟨bo, t, t, bb, bc⟩ : Ins).to, .int .i64 (⟨bo, t, t, bb, bc⟩ : Ins).a, .int .i64 (⟨bo, t, t, bb, bc⟩ : Ins).b, .int .i64 (⟨bo, t, t, bb, bc⟩ : Ins).c]] w fun e w' => e = mlE (meI ⟨6, t, aa, ab, ac⟩ ⟨bo, t, t, bb, bc⟩) ∧ Below w.heap.size w w' := by
  have HI := hide hi
  have HJ := hide hj
  rw [may_iff] at hi hj
  dsimp only at hi hj ⊢
  have hbo : bo = 1 ∨ bo = 2 ∨ bo = 5 ∨ bo = 6 ∨ bo = 7 ∨ bo = 8 := by
    unfold twoB at h2
    simp only [Bool.or_eq_false_iff, decide_eq_false_iff_not] at h2
    omega
  clear h2
  obtain ⟨a0, a1, a2⟩ : -512 ≤ ac ∧ ac ≤ 512 ∧ ac ≠ 0 := by omega
  rcases hbo with rfl | rfl | rfl | rfl | rfl | rfl
  · skip
    clear hi hj
    have HRES : Hid (meI ⟨6, t, aa, ab, ac⟩ ⟨1, t, t, bb, bc⟩ = none) := hide (meI_none (a := ⟨6, t, aa, ab, ac⟩) (b := ⟨1, t, t, bb, bc⟩) (rfl))
    generalize meI ⟨6, t, aa, ab, ac⟩ ⟨1, t, t, bb, bc⟩ = G at *
    go_enter Tryd.func25, Tryd.ntmps25
    go_upto_region 1 with fail
    have b1 := below_alloc w (.cells #[.int .i64 6, .int .i64 t, .int .i64 aa, .int .i64 ab, .int .i64 ac] 24)
    have b2 := below_alloc (w.alloc (.cells #[.int .i64 6, .int .i64 t, .int .i64 aa, .int .i64 ab, .int .i64 ac] 24)) (.cells #[.int .i64 1, .int .i64 t, .int .i64 t, .int .i64 bb, .int .i64 bc] 24)
    have b3 := below_alloc ((w.alloc (.cells #[.int .i64 6, .int .i64 t, .int .i64 aa, .int .i64 ab, .int .i64 ac] 24)).alloc (.cells #[.int .i64 1, .int .i64 t, .int .i64 t, .int .i64 bb, .int .i64 bc] 24)) (.cells #[.int .i64 0, .int .i64 0, .int .i64 0, .int .i64 0, .int .i64 0] 24)
    have IX0 := (((Box5.new w 24 ⟨6, t, aa, ab, ac⟩).step b2).step b3)
    replace IX0 : Hid (Box5 (((w.alloc (.cells #[.int .i64 6, .int .i64 t, .int .i64 aa, .int .i64 ab, .int .i64 ac] 24)).alloc (.cells #[.int .i64 1, .int .i64 t, .int .i64 t, .int .i64 bb, .int .i64 bc] 24)).alloc (.cells #[.int .i64 0, .int .i64 0, .int .i64 0, .int .i64 0, .int .i64 0] 24)) (w.heap.size) 24 ⟨6, t, aa, ab, ac⟩) := hide IX0
    have IX1 := ((Box5.new (w.alloc (.cells #[.int .i64 6, .int .i64 t, .int .i64 aa, .int .i64 ab, .int .i64 ac] 24)) 24 ⟨1, t, t, bb, bc⟩).step b3)
    simp only [World.size_alloc] at IX1
    replace IX1 : Hid (Box5 (((w.alloc (.cells #[.int .i64 6, .int .i64 t, .int .i64 aa, .int .i64 ab, .int .i64 ac] 24)).alloc (.cells #[.int .i64 1, .int .i64 t, .int .i64 t, .int .i64 bb, .int .i64 bc] 24)).alloc (.cells #[.int .i64 0, .int .i64 0, .int .i64 0, .int .i64 0, .int .i64 0] 24)) (w.heap.size + 1) 24 ⟨1, t, t, bb, bc⟩) := hide IX1
    have RX := (Box5.new ((w.alloc (.cells #[.int .i64 6, .int .i64 t, .int .i64 aa, .int .i64 ab, .int .i64 ac] 24)).alloc (.cells #[.int .i64 1, .int .i64 t, .int .i64 t, .int .i64 bb, .int .i64 bc] 24)) 24 ⟨0, 0, 0, 0, 0⟩)
    simp only [World.size_alloc] at RX
    replace RX : Hid (Box5 (((w.alloc (.cells #[.int .i64 6, .int .i64 t, .int .i64 aa, .int .i64 ab, .int .i64 ac] 24)).alloc (.cells #[.int .i64 1, .int .i64 t, .int .i64 t, .int .i64 bb, .int .i64 bc] 24)).alloc (.cells #[.int .i64 0, .int .i64 0, .int .i64 0, .int .i64 0, .int .i64 0] 24)) (w.heap.size + 1 + 1) 24 ⟨0, 0, 0, 0, 0⟩) := hide RX
    have HB := hide ((b1.trans (b2.mono b1.size)).trans (b3.mono (b1.trans (b2.mono b1.size)).size))
    clear b1 b2 b3
    generalize ((w.alloc (.cells #[.int .i64 6, .int .i64 t, .int .i64 aa, .int .i64 ab, .int .i64 ac] 24)).alloc (.cells #[.int .i64 1, .int .i64 t, .int .i64 t, .int .i64 bb, .int .i64 bc] 24)).alloc (.cells #[.int .i64 0, .int .i64 0, .int .i64 0, .int .i64 0, .int .i64 0] 24) = w1 at *
    obtain ⟨R, hR⟩ : ∃ B, B = w.heap.size + 1 + 1 := ⟨_, rfl⟩
    have ZR := hide hR
    try rw [show w.heap.size + 2 = w.heap.size + 1 + 1 from rfl]
    rw [← hR] at RX ⊢
    clear hR
    obtain ⟨B1, hB1⟩ : ∃ B, B = w.heap.size + 1 := ⟨_, rfl⟩
    have ZB1 := hide hB1
    rw [← hB1] at IX1 ⊢
    clear hB1
    obtain ⟨B0, hB0⟩ : ∃ B, B = w.heap.size := ⟨_, rfl⟩
    have ZB0 := hide hB0
    rw [← hB0] at IX0 ⊢
    clear hB0
    have k0 := IX0.out.cells.cell0
    have k1 := IX0.out.cells.cell1
    have k2 := IX0.out.cells.cell2
    have k3 := IX0.out.cells.cell3
    have k4 := IX0.out.cells.cell4
    simp only [Nat.zero_add] at k1 k2 k3 k4
    have l0 := IX1.out.cells.cell0
    have l1 := IX1.out.cells.cell1
    have l2 := IX1.out.cells.cell2
    have l3 := IX1.out.cells.cell3
    have l4 := IX1.out.cells.cell4
    simp only [Nat.zero_add] at l1 l2 l3 l4
    have q0 := RX.out.cells.cell0
    have q1 := RX.out.cells.cell1
    have q2 := RX.out.cells.cell2
    have q3 := RX.out.cells.cell3
    have q4 := RX.out.cells.cell4
    simp only [Nat.zero_add] at q1 q2 q3 q4
    have f0 := RX.out.free 0
    have f1 := RX.out.free 1
    have f2 := RX.out.free 2
    have f3 := RX.out.free 3
    have f4 := RX.out.free 4
    go_upto_region 3 with fail
    clear k0 k1 k2 k3 k4 l0 l1 l2 l3 l4 q0 q1 q2 q3 q4 f0 f1 f2 f3 f4
    refine wp_calm (fun w' => Below w.heap.size w w' ∧ Box5 w' B0 24 ⟨6, t, aa, ab, ac⟩ ∧ Box5 w' B1 24 ⟨1, t, t, bb, bc⟩ ∧ Box5 w' R 24 ⟨0, 0, 0, 0, 0⟩) (fun _ => true) 6 #[false, false, false, false, false, false] (by kernel_rfl) rfl rfl ?_
    have HF := hide (And.intro (HB.out.drew) (And.intro (IX0.out.drew) (And.intro (IX1.out.drew) (RX.out.drew))))
    generalize w1.drew = w1d at *
    refine Calm.takeL 6 (i := 0) (v := ?_) (a' := ?_) (l' := #[true, false, false, false, false, false]) (d := some 31) (by kernel_rfl) rfl (by kernel_rfl) (by kernel_rfl) (by kernel_rfl) (by kernel_rfl) (fun _ _ _ h => h) HF.out rfl ?_ rfl rfl ?_ ?_
    rotate_left
    · intro w' hF; clear hF; go_simp; try rfl
    rotate_left
    · simp only [Act.put]; exact rfl
    refine Calm.takeL 6 (i := 1) (v := ?_) (a' := ?_) (l' := #[true, true, false, false, false, false]) (d := some 32) (by kernel_rfl) rfl (by kernel_rfl) (by kernel_rfl) (by kernel_rfl) (by kernel_rfl) (fun _ _ _ h => h) HF.out rfl ?_ rfl rfl ?_ ?_
    rotate_left
    · intro w' hF; have f10 := hF.2.1.cells.cell0; have f11 := hF.2.1.cells.cell1; have f12 := hF.2.1.cells.cell2; have f13 := hF.2.1.cells.cell3; have f14 := hF.2.1.cells.cell4; simp only [Nat.zero_add] at f11 f12 f13 f14; have f20 := hF.2.2.1.cells.cell0; have f21 := hF.2.2.1.cells.cell1; have f22 := hF.2.2.1.cells.cell2; have f23 := hF.2.2.1.cells.cell3; have f24 := hF.2.2.1.cells.cell4; simp only [Nat.zero_add] at f21 f22 f23 f24; have f30 := hF.2.2.2.cells.cell0; have f31 := hF.2.2.2.cells.cell1; have f32 := hF.2.2.2.cells.cell2; have f33 := hF.2.2.2.cells.cell3; have f34 := hF.2.2.2.cells.cell4; simp only [Nat.zero_add] at f31 f32 f33 f34; clear hF; go_simp; try rfl
    rotate_left
    · simp only [Act.put]; exact rfl
    refine Calm.takeL 6 (i := 2) (v := ?_) (a' := ?_) (l' := #[true, true, true, false, false, false]) (d := some 33) (by kernel_rfl) rfl (by kernel_rfl) (by kernel_rfl) (by kernel_rfl) (by kernel_rfl) (fun _ _ _ h => h) HF.out rfl ?_ rfl rfl ?_ ?_
    rotate_left
    · intro w' hF; clear hF; go_simp; try rfl
    rotate_left
    · simp only [Act.put]; exact rfl
    refine Calm.takeL 6 (i := 3) (v := ?_) (a' := ?_) (l' := #[true, true, true, true, false, false]) (d := some 34) (by kernel_rfl) rfl (by kernel_rfl) (by kernel_rfl) (by kernel_rfl) (by kernel_rfl) (fun _ _ _ h => h) HF.out rfl ?_ rfl rfl ?_ ?_
    rotate_left
    · intro w' hF; have f10 := hF.2.1.cells.cell0; have f11 := hF.2.1.cells.cell1; have f12 := hF.2.1.cells.cell2; have f13 := hF.2.1.cells.cell3; have f14 := hF.2.1.cells.cell4; simp only [Nat.zero_add] at f11 f12 f13 f14; have f20 := hF.2.2.1.cells.cell0; have f21 := hF.2.2.1.cells.cell1; have f22 := hF.2.2.1.cells.cell2; have f23 := hF.2.2.1.cells.cell3; have f24 := hF.2.2.1.cells.cell4; simp only [Nat.zero_add] at f21 f22 f23 f24; have f30 := hF.2.2.2.cells.cell0; have f31 := hF.2.2.2.cells.cell1; have f32 := hF.2.2.2.cells.cell2; have f33 := hF.2.2.2.cells.cell3; have f34 := hF.2.2.2.cells.cell4; simp only [Nat.zero_add] at f31 f32 f33 f34; clear hF; go_simp; try rfl
    rotate_left
    · simp only [Act.put]; exact rfl
    refine Calm.takeL 6 (i := 4) (v := ?_) (a' := ?_) (l' := #[true, true, true, true, true, false]) (d := some 6) (by kernel_rfl) rfl (by kernel_rfl) (by kernel_rfl) (by kernel_rfl) (by kernel_rfl) (fun _ _ _ h => h) HF.out rfl ?_ rfl rfl ?_ ?_
    rotate_left
    · intro w' hF; clear hF; go_simp; try rfl
    rotate_left
    · simp only [Act.put]; exact rfl
    refine Calm.takeL 6 (i := 5) (v := ?_) (a' := ?_) (l' := #[true, true, true, true, true, true]) (d := some 7) (by kernel_rfl) rfl (by kernel_rfl) (by kernel_rfl) (by kernel_rfl) (by kernel_rfl) (fun _ _ _ h => h) HF.out rfl ?_ rfl rfl ?_ ?_
    rotate_left
    · intro w' hF; clear hF; go_simp; try rfl
    rotate_left
    · simp only [Act.put]; exact rfl
    refine Calm.done (by kernel_rfl) ?_
    replace HB := hide HF.out.1
    replace IX0 := hide HF.out.2.1
    replace IX1 := hide HF.out.2.2.1
    replace RX := hide HF.out.2.2.2
    clear HF
    have k0 := IX0.out.cells.cell0
    have k1 := IX0.out.cells.cell1
    have k2 := IX0.out.cells.cell2
    have k3 := IX0.out.cells.cell3
    have k4 := IX0.out.cells.cell4
    simp only [Nat.zero_add] at k1 k2 k3 k4
    have l0 := IX1.out.cells.cell0
    have l1 := IX1.out.cells.cell1
    have l2 := IX1.out.cells.cell2
    have l3 := IX1.out.cells.cell3
    have l4 := IX1.out.cells.cell4
    simp only [Nat.zero_add] at l1 l2 l3 l4
    have q0 := RX.out.cells.cell0
    have q1 := RX.out.cells.cell1
    have q2 := RX.out.cells.cell2
    have q3 := RX.out.cells.cell3
    have q4 := RX.out.cells.cell4
    simp only [Nat.zero_add] at q1 q2 q3 q4
    have f0 := RX.out.free 0
    have f1 := RX.out.free 1
    have f2 := RX.out.free 2
    have f3 := RX.out.free 3
    have f4 := RX.out.free 4
    go_wp2
    refine ret_insb rfl R ⟨0, 0, 0, 0, 0⟩ rfl (RX.out.put ⟨0, 0, 0, 0, 0⟩) rfl ⟨by rw [HRES.out]; rfl, ?_⟩
    exact below_put5 HB.out (by have := ZR.out; omega) _ _ _ _ _
  · skip
    clear hi hj
    have HT : tog 6 ac 2 bc = some ((6 : Int), -ac) := rfl
    have HRES : Hid (meI ⟨6, t, aa, ab, ac⟩ ⟨2, t, t, bb, bc⟩ = some (plI ⟨6, t, aa, 0, -ac⟩)) := hide (meI_some (a := ⟨6, t, aa, ab, ac⟩) (b := ⟨2, t, t, bb, bc⟩) ⟨rfl, rfl, rfl⟩ HT)
    have HX : Hid (mayB ⟨6, t, aa, 0, -ac⟩ 128 = true) := hide (tog_may (a := ⟨6, t, aa, ab, ac⟩) (b := ⟨2, t, t, bb, bc⟩) HI.out HJ.out rfl HT)
    clear HT
    obtain ⟨Y, hY⟩ : ∃ Y, Y = plI ⟨6, t, aa, 0, -ac⟩ := ⟨_, rfl⟩
    rw [← hY] at HRES
    have HY := hide hY
    clear hY
    generalize meI ⟨6, t, aa, ab, ac⟩ ⟨2, t, t, bb, bc⟩ = G at *
    go_enter Tryd.func25, Tryd.ntmps25
    go_upto_region 1 with fail
    have b1 := below_alloc w (.cells #[.int .i64 6, .int .i64 t, .int .i64 aa, .int .i64 ab, .int .i64 ac] 24)
    have b2 := below_alloc (w.alloc (.cells #[.int .i64 6, .int .i64 t, .int .i64 aa, .int .i64 ab, .int .i64 ac] 24)) (.cells #[.int .i64 2, .int .i64 t, .int .i64 t, .int .i64 bb, .int .i64 bc] 24)
    have b3 := below_alloc ((w.alloc (.cells #[.int .i64 6, .int .i64 t, .int .i64 aa, .int .i64 ab, .int .i64 ac] 24)).alloc (.cells #[.int .i64 2, .int .i64 t, .int .i64 t, .int .i64 bb, .int .i64 bc] 24)) (.cells #[.int .i64 0, .int .i64 0, .int .i64 0, .int .i64 0, .int .i64 0] 24)
    have IX0 := (((Box5.new w 24 ⟨6, t, aa, ab, ac⟩).step b2).step b3)
    replace IX0 : Hid (Box5 (((w.alloc (.cells #[.int .i64 6, .int .i64 t, .int .i64 aa, .int .i64 ab, .int .i64 ac] 24)).alloc (.cells #[.int .i64 2, .int .i64 t, .int .i64 t, .int .i64 bb, .int .i64 bc] 24)).alloc (.cells #[.int .i64 0, .int .i64 0, .int .i64 0, .int .i64 0, .int .i64 0] 24)) (w.heap.size) 24 ⟨6, t, aa, ab, ac⟩) := hide IX0
    have IX1 := ((Box5.new (w.alloc (.cells #[.int .i64 6, .int .i64 t, .int .i64 aa, .int .i64 ab, .int .i64 ac] 24)) 24 ⟨2, t, t, bb, bc⟩).step b3)
    simp only [World.size_alloc] at IX1
    replace IX1 : Hid (Box5 (((w.alloc (.cells #[.int .i64 6, .int .i64 t, .int .i64 aa, .int .i64 ab, .int .i64 ac] 24)).alloc (.cells #[.int .i64 2, .int .i64 t, .int .i64 t, .int .i64 bb, .int .i64 bc] 24)).alloc (.cells #[.int .i64 0, .int .i64 0, .int .i64 0, .int .i64 0, .int .i64 0] 24)) (w.heap.size + 1) 24 ⟨2, t, t, bb, bc⟩) := hide IX1
    have RX := (Box5.new ((w.alloc (.cells #[.int .i64 6, .int .i64 t, .int .i64 aa, .int .i64 ab, .int .i64 ac] 24)).alloc (.cells #[.int .i64 2, .int .i64 t, .int .i64 t, .int .i64 bb, .int .i64 bc] 24)) 24 ⟨0, 0, 0, 0, 0⟩)
    simp only [World.size_alloc] at RX
    replace RX : Hid (Box5 (((w.alloc (.cells #[.int .i64 6, .int .i64 t, .int .i64 aa, .int .i64 ab, .int .i64 ac] 24)).alloc (.cells #[.int .i64 2, .int .i64 t, .int .i64 t, .int .i64 bb, .int .i64 bc] 24)).alloc (.cells #[.int .i64 0, .int .i64 0, .int .i64 0, .int .i64 0, .int .i64 0] 24)) (w.heap.size + 1 + 1) 24 ⟨0, 0, 0, 0, 0⟩) := hide RX
    have HB := hide ((b1.trans (b2.mono b1.size)).trans (b3.mono (b1.trans (b2.mono b1.size)).size))
    clear b1 b2 b3
    generalize ((w.alloc (.cells #[.int .i64 6, .int .i64 t, .int .i64 aa, .int .i64 ab, .int .i64 ac] 24)).alloc (.cells #[.int .i64 2, .int .i64 t, .int .i64 t, .int .i64 bb, .int .i64 bc] 24)).alloc (.cells #[.int .i64 0, .int .i64 0, .int .i64 0, .int .i64 0, .int .i64 0] 24) = w1 at *
    obtain ⟨R, hR⟩ : ∃ B, B = w.heap.size + 1 + 1 := ⟨_, rfl⟩
    have ZR := hide hR
    try rw [show w.heap.size + 2 = w.heap.size + 1 + 1 from rfl]
    rw [← hR] at RX ⊢
    clear hR
    obtain ⟨B1, hB1⟩ : ∃ B, B = w.heap.size + 1 := ⟨_, rfl⟩
    have ZB1 := hide hB1
    rw [← hB1] at IX1 ⊢
    clear hB1
    obtain ⟨B0, hB0⟩ : ∃ B, B = w.heap.size := ⟨_, rfl⟩
    have ZB0 := hide hB0
    rw [← hB0] at IX0 ⊢
    clear hB0
    have k0 := IX0.out.cells.cell0
    have k1 := IX0.out.cells.cell1
    have k2 := IX0.out.cells.cell2
    have k3 := IX0.out.cells.cell3
    have k4 := IX0.out.cells.cell4
    simp only [Nat.zero_add] at k1 k2 k3 k4
    have l0 := IX1.out.cells.cell0
    have l1 := IX1.out.cells.cell1
    have l2 := IX1.out.cells.cell2
    have l3 := IX1.out.cells.cell3
    have l4 := IX1.out.cells.cell4
    simp only [Nat.zero_add] at l1 l2 l3 l4
    have q0 := RX.out.cells.cell0
    have q1 := RX.out.cells.cell1
    have q2 := RX.out.cells.cell2
    have q3 := RX.out.cells.cell3
    have q4 := RX.out.cells.cell4
    simp only [Nat.zero_add] at q1 q2 q3 q4
    have f0 := RX.out.free 0
    have f1 := RX.out.free 1
    have f2 := RX.out.free 2
    have f3 := RX.out.free 3
    have f4 := RX.out.free 4
    go_upto_region 3 with fail
    clear k0 k1 k2 k3 k4 l0 l1 l2 l3 l4 q0 q1 q2 q3 q4 f0 f1 f2 f3 f4
    refine wp_calm (fun w' => Below w.heap.size w w' ∧ Box5 w' B0 24 ⟨6, t, aa, ab, ac⟩ ∧ Box5 w' B1 24 ⟨2, t, t, bb, bc⟩ ∧ Box5 w' R 24 ⟨0, 0, 0, 0, 0⟩) (fun _ => true) 6 #[false, false, false, false, false, false] (by kernel_rfl) rfl rfl ?_
    have HF := hide (And.intro (HB.out.drew) (And.intro (IX0.out.drew) (And.intro (IX1.out.drew) (RX.out.drew))))
    generalize w1.drew = w1d at *
    refine Calm.takeL 6 (i := 0) (v := ?_) (a' := ?_) (l' := #[true, false, false, false, false, false]) (d := some 31) (by kernel_rfl) rfl (by kernel_rfl) (by kernel_rfl) (by kernel_rfl) (by kernel_rfl) (fun _ _ _ h => h) HF.out rfl ?_ rfl rfl ?_ ?_
    rotate_left
    · intro w' hF; clear hF; go_simp; try rfl
    rotate_left
    · simp only [Act.put]; exact rfl
    refine Calm.takeL 6 (i := 1) (v := ?_) (a' := ?_) (l' := #[true, true, false, false, false, false]) (d := some 32) (by kernel_rfl) rfl (by kernel_rfl) (by kernel_rfl) (by kernel_rfl) (by kernel_rfl) (fun _ _ _ h => h) HF.out rfl ?_ rfl rfl ?_ ?_
    rotate_left
    · intro w' hF; have f10 := hF.2.1.cells.cell0; have f11 := hF.2.1.cells.cell1; have f12 := hF.2.1.cells.cell2; have f13 := hF.2.1.cells.cell3; have f14 := hF.2.1.cells.cell4; simp only [Nat.zero_add] at f11 f12 f13 f14; have f20 := hF.2.2.1.cells.cell0; have f21 := hF.2.2.1.cells.cell1; have f22 := hF.2.2.1.cells.cell2; have f23 := hF.2.2.1.cells.cell3; have f24 := hF.2.2.1.cells.cell4; simp only [Nat.zero_add] at f21 f22 f23 f24; have f30 := hF.2.2.2.cells.cell0; have f31 := hF.2.2.2.cells.cell1; have f32 := hF.2.2.2.cells.cell2; have f33 := hF.2.2.2.cells.cell3; have f34 := hF.2.2.2.cells.cell4; simp only [Nat.zero_add] at f31 f32 f33 f34; clear hF; go_simp; try rfl
    rotate_left
    · simp only [Act.put]; exact rfl
    refine Calm.takeL 6 (i := 2) (v := ?_) (a' := ?_) (l' := #[true, true, true, false, false, false]) (d := some 33) (by kernel_rfl) rfl (by kernel_rfl) (by kernel_rfl) (by kernel_rfl) (by kernel_rfl) (fun _ _ _ h => h) HF.out rfl ?_ rfl rfl ?_ ?_
    rotate_left
    · intro w' hF; clear hF; go_simp; try rfl
    rotate_left
    · simp only [Act.put]; exact rfl
    refine Calm.takeL 6 (i := 3) (v := ?_) (a' := ?_) (l' := #[true, true, true, true, false, false]) (d := some 34) (by kernel_rfl) rfl (by kernel_rfl) (by kernel_rfl) (by kernel_rfl) (by kernel_rfl) (fun _ _ _ h => h) HF.out rfl ?_ rfl rfl ?_ ?_
    rotate_left
    · intro w' hF; have f10 := hF.2.1.cells.cell0; have f11 := hF.2.1.cells.cell1; have f12 := hF.2.1.cells.cell2; have f13 := hF.2.1.cells.cell3; have f14 := hF.2.1.cells.cell4; simp only [Nat.zero_add] at f11 f12 f13 f14; have f20 := hF.2.2.1.cells.cell0; have f21 := hF.2.2.1.cells.cell1; have f22 := hF.2.2.1.cells.cell2; have f23 := hF.2.2.1.cells.cell3; have f24 := hF.2.2.1.cells.cell4; simp only [Nat.zero_add] at f21 f22 f23 f24; have f30 := hF.2.2.2.cells.cell0; have f31 := hF.2.2.2.cells.cell1; have f32 := hF.2.2.2.cells.cell2; have f33 := hF.2.2.2.cells.cell3; have f34 := hF.2.2.2.cells.cell4; simp only [Nat.zero_add] at f31 f32 f33 f34; clear hF; go_simp; try rfl
    rotate_left
    · simp only [Act.put]; exact rfl
    refine Calm.takeL 6 (i := 4) (v := ?_) (a' := ?_) (l' := #[true, true, true, true, true, false]) (d := some 6) (by kernel_rfl) rfl (by kernel_rfl) (by kernel_rfl) (by kernel_rfl) (by kernel_rfl) (fun _ _ _ h => h) HF.out rfl ?_ rfl rfl ?_ ?_
    rotate_left
    · intro w' hF; clear hF; go_simp; try rfl
    rotate_left
    · simp only [Act.put]; exact rfl
    refine Calm.takeL 6 (i := 5) (v := ?_) (a' := ?_) (l' := #[true, true, true, true, true, true]) (d := some 7) (by kernel_rfl) rfl (by kernel_rfl) (by kernel_rfl) (by kernel_rfl) (by kernel_rfl) (fun _ _ _ h => h) HF.out rfl ?_ rfl rfl ?_ ?_
    rotate_left
    · intro w' hF; clear hF; go_simp; try rfl
    rotate_left
    · simp only [Act.put]; exact rfl
    refine Calm.done (by kernel_rfl) ?_
    replace HB := hide HF.out.1
    replace IX0 := hide HF.out.2.1
    replace IX1 := hide HF.out.2.2.1
    replace RX := hide HF.out.2.2.2
    clear HF
    have k0 := IX0.out.cells.cell0
    have k1 := IX0.out.cells.cell1
    have k2 := IX0.out.cells.cell2
    have k3 := IX0.out.cells.cell3
    have k4 := IX0.out.cells.cell4
    simp only [Nat.zero_add] at k1 k2 k3 k4
    have l0 := IX1.out.cells.cell0
    have l1 := IX1.out.cells.cell1
    have l2 := IX1.out.cells.cell2
    have l3 := IX1.out.cells.cell3
    have l4 := IX1.out.cells.cell4
    simp only [Nat.zero_add] at l1 l2 l3 l4
    have q0 := RX.out.cells.cell0
    have q1 := RX.out.cells.cell1
    have q2 := RX.out.cells.cell2
    have q3 := RX.out.cells.cell3
    have q4 := RX.out.cells.cell4
    simp only [Nat.zero_add] at q1 q2 q3 q4
    have f0 := RX.out.free 0
    have f1 := RX.out.free 1
    have f2 := RX.out.free 2
    have f3 := RX.out.free 3
    have f4 := RX.out.free 4
    go_wp2_with fail
    refine (rout_any ⟨6, t, aa, ab, ac⟩ ⟨2, t, t, bb, bc⟩ (6) (-ac) _ HX.out).mono ?_
    rintro e w3 ⟨rfl, hb⟩
    replace RX := hide (RX.out.step hb)
    replace HB := hide (HB.out.trans (hb.mono HB.out.size))
    clear k0 k1 k2 k3 k4 l0 l1 l2 l3 l4 q0 q1 q2 q3 q4 f0 f1 f2 f3 f4 hb
    have q0 := RX.out.cells.cell0
    have q1 := RX.out.cells.cell1
    have q2 := RX.out.cells.cell2
    have q3 := RX.out.cells.cell3
    have q4 := RX.out.cells.cell4
    simp only [Nat.zero_add] at q1 q2 q3 q4
    have f0 := RX.out.free 0
    have f1 := RX.out.free 1
    have f2 := RX.out.free 2
    have f3 := RX.out.free 3
    have f4 := RX.out.free 4
    rw [← HY.out]
    go_wp2
    refine ret_insb rfl R Y rfl (RX.out.put Y) rfl ⟨by rw [HRES.out]; rfl, ?_⟩
    exact below_put5 HB.out (by have := ZR.out; omega) _ _ _ _ _
  · skip
    obtain ⟨b0, b1, b2⟩ : -512 ≤ bc ∧ bc ≤ 512 ∧ bc ≠ 0 := by omega
    clear hi hj
    have HRES : Hid (meI ⟨6, t, aa, ab, ac⟩ ⟨5, t, t, bb, bc⟩ = none) := hide (meI_none (a := ⟨6, t, aa, ab, ac⟩) (b := ⟨5, t, t, bb, bc⟩) (rfl))
    generalize meI ⟨6, t, aa, ab, ac⟩ ⟨5, t, t, bb, bc⟩ = G at *
    go_enter Tryd.func25, Tryd.ntmps25
    go_upto_region 1 with fail
    have b1 := below_alloc w (.cells #[.int .i64 6, .int .i64 t, .int .i64 aa, .int .i64 ab, .int .i64 ac] 24)
    have b2 := below_alloc (w.alloc (.cells #[.int .i64 6, .int .i64 t, .int .i64 aa, .int .i64 ab, .int .i64 ac] 24)) (.cells #[.int .i64 5, .int .i64 t, .int .i64 t, .int .i64 bb, .int .i64 bc] 24)
    have b3 := below_alloc ((w.alloc (.cells #[.int .i64 6, .int .i64 t, .int .i64 aa, .int .i64 ab, .int .i64 ac] 24)).alloc (.cells #[.int .i64 5, .int .i64 t, .int .i64 t, .int .i64 bb, .int .i64 bc] 24)) (.cells #[.int .i64 0, .int .i64 0, .int .i64 0, .int .i64 0, .int .i64 0] 24)
    have IX0 := (((Box5.new w 24 ⟨6, t, aa, ab, ac⟩).step b2).step b3)
    replace IX0 : Hid (Box5 (((w.alloc (.cells #[.int .i64 6, .int .i64 t, .int .i64 aa, .int .i64 ab, .int .i64 ac] 24)).alloc (.cells #[.int .i64 5, .int .i64 t, .int .i64 t, .int .i64 bb, .int .i64 bc] 24)).alloc (.cells #[.int .i64 0, .int .i64 0, .int .i64 0, .int .i64 0, .int .i64 0] 24)) (w.heap.size) 24 ⟨6, t, aa, ab, ac⟩) := hide IX0
    have IX1 := ((Box5.new (w.alloc (.cells #[.int .i64 6, .int .i64 t, .int .i64 aa, .int .i64 ab, .int .i64 ac] 24)) 24 ⟨5, t, t, bb, bc⟩).step b3)
    simp only [World.size_alloc] at IX1
    replace IX1 : Hid (Box5 (((w.alloc (.cells #[.int .i64 6, .int .i64 t, .int .i64 aa, .int .i64 ab, .int .i64 ac] 24)).alloc (.cells #[.int .i64 5, .int .i64 t, .int .i64 t, .int .i64 bb, .int .i64 bc] 24)).alloc (.cells #[.int .i64 0, .int .i64 0, .int .i64 0, .int .i64 0, .int .i64 0] 24)) (w.heap.size + 1) 24 ⟨5, t, t, bb, bc⟩) := hide IX1
    have RX := (Box5.new ((w.alloc (.cells #[.int .i64 6, .int .i64 t, .int .i64 aa, .int .i64 ab, .int .i64 ac] 24)).alloc (.cells #[.int .i64 5, .int .i64 t, .int .i64 t, .int .i64 bb, .int .i64 bc] 24)) 24 ⟨0, 0, 0, 0, 0⟩)
    simp only [World.size_alloc] at RX
    replace RX : Hid (Box5 (((w.alloc (.cells #[.int .i64 6, .int .i64 t, .int .i64 aa, .int .i64 ab, .int .i64 ac] 24)).alloc (.cells #[.int .i64 5, .int .i64 t, .int .i64 t, .int .i64 bb, .int .i64 bc] 24)).alloc (.cells #[.int .i64 0, .int .i64 0, .int .i64 0, .int .i64 0, .int .i64 0] 24)) (w.heap.size + 1 + 1) 24 ⟨0, 0, 0, 0, 0⟩) := hide RX
    have HB := hide ((b1.trans (b2.mono b1.size)).trans (b3.mono (b1.trans (b2.mono b1.size)).size))
    clear b1 b2 b3
    generalize ((w.alloc (.cells #[.int .i64 6, .int .i64 t, .int .i64 aa, .int .i64 ab, .int .i64 ac] 24)).alloc (.cells #[.int .i64 5, .int .i64 t, .int .i64 t, .int .i64 bb, .int .i64 bc] 24)).alloc (.cells #[.int .i64 0, .int .i64 0, .int .i64 0, .int .i64 0, .int .i64 0] 24) = w1 at *
    obtain ⟨R, hR⟩ : ∃ B, B = w.heap.size + 1 + 1 := ⟨_, rfl⟩
    have ZR := hide hR
    try rw [show w.heap.size + 2 = w.heap.size + 1 + 1 from rfl]
    rw [← hR] at RX ⊢
    clear hR
    obtain ⟨B1, hB1⟩ : ∃ B, B = w.heap.size + 1 := ⟨_, rfl⟩
    have ZB1 := hide hB1
    rw [← hB1] at IX1 ⊢
    clear hB1
    obtain ⟨B0, hB0⟩ : ∃ B, B = w.heap.size := ⟨_, rfl⟩
    have ZB0 := hide hB0
    rw [← hB0] at IX0 ⊢
    clear hB0
    have k0 := IX0.out.cells.cell0
    have k1 := IX0.out.cells.cell1
    have k2 := IX0.out.cells.cell2
    have k3 := IX0.out.cells.cell3
    have k4 := IX0.out.cells.cell4
    simp only [Nat.zero_add] at k1 k2 k3 k4
    have l0 := IX1.out.cells.cell0
    have l1 := IX1.out.cells.cell1
    have l2 := IX1.out.cells.cell2
    have l3 := IX1.out.cells.cell3
    have l4 := IX1.out.cells.cell4
    simp only [Nat.zero_add] at l1 l2 l3 l4
    have q0 := RX.out.cells.cell0
    have q1 := RX.out.cells.cell1
    have q2 := RX.out.cells.cell2
    have q3 := RX.out.cells.cell3
    have q4 := RX.out.cells.cell4
    simp only [Nat.zero_add] at q1 q2 q3 q4
    have f0 := RX.out.free 0
    have f1 := RX.out.free 1
    have f2 := RX.out.free 2
    have f3 := RX.out.free 3
    have f4 := RX.out.free 4
    go_upto_region 3 with fail
    clear k0 k1 k2 k3 k4 l0 l1 l2 l3 l4 q0 q1 q2 q3 q4 f0 f1 f2 f3 f4
    refine wp_calm (fun w' => Below w.heap.size w w' ∧ Box5 w' B0 24 ⟨6, t, aa, ab, ac⟩ ∧ Box5 w' B1 24 ⟨5, t, t, bb, bc⟩ ∧ Box5 w' R 24 ⟨0, 0, 0, 0, 0⟩) (fun _ => true) 6 #[false, false, false, false, false, false] (by kernel_rfl) rfl rfl ?_
    have HF := hide (And.intro (HB.out.drew) (And.intro (IX0.out.drew) (And.intro (IX1.out.drew) (RX.out.drew))))
    generalize w1.drew = w1d at *
    refine Calm.takeL 6 (i := 0) (v := ?_) (a' := ?_) (l' := #[true, false, false, false, false, false]) (d := some 31) (by kernel_rfl) rfl (by kernel_rfl) (by kernel_rfl) (by kernel_rfl) (by kernel_rfl) (fun _ _ _ h => h) HF.out rfl ?_ rfl rfl ?_ ?_
    rotate_left
    · intro w' hF; clear hF; go_simp; try rfl
    rotate_left
    · simp only [Act.put]; exact rfl
    refine Calm.takeL 6 (i := 1) (v := ?_) (a' := ?_) (l' := #[true, true, false, false, false, false]) (d := some 32) (by kernel_rfl) rfl (by kernel_rfl) (by kernel_rfl) (by kernel_rfl) (by kernel_rfl) (fun _ _ _ h => h) HF.out rfl ?_ rfl rfl ?_ ?_
    rotate_left
    · intro w' hF; have f10 := hF.2.1.cells.cell0; have f11 := hF.2.1.cells.cell1; have f12 := hF.2.1.cells.cell2; have f13 := hF.2.1.cells.cell3; have f14 := hF.2.1.cells.cell4; simp only [Nat.zero_add] at f11 f12 f13 f14; have f20 := hF.2.2.1.cells.cell0; have f21 := hF.2.2.1.cells.cell1; have f22 := hF.2.2.1.cells.cell2; have f23 := hF.2.2.1.cells.cell3; have f24 := hF.2.2.1.cells.cell4; simp only [Nat.zero_add] at f21 f22 f23 f24; have f30 := hF.2.2.2.cells.cell0; have f31 := hF.2.2.2.cells.cell1; have f32 := hF.2.2.2.cells.cell2; have f33 := hF.2.2.2.cells.cell3; have f34 := hF.2.2.2.cells.cell4; simp only [Nat.zero_add] at f31 f32 f33 f34; clear hF; go_simp; try rfl
    rotate_left
    · simp only [Act.put]; exact rfl
    refine Calm.takeL 6 (i := 2) (v := ?_) (a' := ?_) (l' := #[true, true, true, false, false, false]) (d := some 33) (by kernel_rfl) rfl (by kernel_rfl) (by kernel_rfl) (by kernel_rfl) (by kernel_rfl) (fun _ _ _ h => h) HF.out rfl ?_ rfl rfl ?_ ?_
    rotate_left
    · intro w' hF; clear hF; go_simp; try rfl
    rotate_left
    · simp only [Act.put]; exact rfl
    refine Calm.takeL 6 (i := 3) (v := ?_) (a' := ?_) (l' := #[true, true, true, true, false, false]) (d := some 34) (by kernel_rfl) rfl (by kernel_rfl) (by kernel_rfl) (by kernel_rfl) (by kernel_rfl) (fun _ _ _ h => h) HF.out rfl ?_ rfl rfl ?_ ?_
    rotate_left
    · intro w' hF; have f10 := hF.2.1.cells.cell0; have f11 := hF.2.1.cells.cell1; have f12 := hF.2.1.cells.cell2; have f13 := hF.2.1.cells.cell3; have f14 := hF.2.1.cells.cell4; simp only [Nat.zero_add] at f11 f12 f13 f14; have f20 := hF.2.2.1.cells.cell0; have f21 := hF.2.2.1.cells.cell1; have f22 := hF.2.2.1.cells.cell2; have f23 := hF.2.2.1.cells.cell3; have f24 := hF.2.2.1.cells.cell4; simp only [Nat.zero_add] at f21 f22 f23 f24; have f30 := hF.2.2.2.cells.cell0; have f31 := hF.2.2.2.cells.cell1; have f32 := hF.2.2.2.cells.cell2; have f33 := hF.2.2.2.cells.cell3; have f34 := hF.2.2.2.cells.cell4; simp only [Nat.zero_add] at f31 f32 f33 f34; clear hF; go_simp; try rfl
    rotate_left
    · simp only [Act.put]; exact rfl
    refine Calm.takeL 6 (i := 4) (v := ?_) (a' := ?_) (l' := #[true, true, true, true, true, false]) (d := some 6) (by kernel_rfl) rfl (by kernel_rfl) (by kernel_rfl) (by kernel_rfl) (by kernel_rfl) (fun _ _ _ h => h) HF.out rfl ?_ rfl rfl ?_ ?_
    rotate_left
    · intro w' hF; clear hF; go_simp; try rfl
    rotate_left
    · simp only [Act.put]; exact rfl
    refine Calm.takeL 6 (i := 5) (v := ?_) (a' := ?_) (l' := #[true, true, true, true, true, true]) (d := some 7) (by kernel_rfl) rfl (by kernel_rfl) (by kernel_rfl) (by kernel_rfl) (by kernel_rfl) (fun _ _ _ h => h) HF.out rfl ?_ rfl rfl ?_ ?_
    rotate_left
    · intro w' hF; clear hF; go_simp; try rfl
    rotate_left
    · simp only [Act.put]; exact rfl
    refine Calm.done (by kernel_rfl) ?_
    replace HB := hide HF.out.1
    replace IX0 := hide HF.out.2.1
    replace IX1 := hide HF.out.2.2.1
    replace RX := hide HF.out.2.2.2
    clear HF
    have k0 := IX0.out.cells.cell0
    have k1 := IX0.out.cells.cell1
    have k2 := IX0.out.cells.cell2
    have k3 := IX0.out.cells.cell3
    have k4 := IX0.out.cells.cell4
    simp only [Nat.zero_add] at k1 k2 k3 k4
    have l0 := IX1.out.cells.cell0
    have l1 := IX1.out.cells.cell1
    have l2 := IX1.out.cells.cell2
    have l3 := IX1.out.cells.cell3
    have l4 := IX1.out.cells.cell4
    simp only [Nat.zero_add] at l1 l2 l3 l4
    have q0 := RX.out.cells.cell0
    have q1 := RX.out.cells.cell1
    have q2 := RX.out.cells.cell2
    have q3 := RX.out.cells.cell3
    have q4 := RX.out.cells.cell4
    simp only [Nat.zero_add] at q1 q2 q3 q4
    have f0 := RX.out.free 0
    have f1 := RX.out.free 1
    have f2 := RX.out.free 2
    have f3 := RX.out.free 3
    have f4 := RX.out.free 4
    go_wp2
    refine ret_insb rfl R ⟨0, 0, 0, 0, 0⟩ rfl (RX.out.put ⟨0, 0, 0, 0, 0⟩) rfl ⟨by rw [HRES.out]; rfl, ?_⟩
    exact below_put5 HB.out (by have := ZR.out; omega) _ _ _ _ _
  · skip
    obtain ⟨b0, b1, b2⟩ : -512 ≤ bc ∧ bc ≤ 512 ∧ bc ≠ 0 := by omega
    clear hi hj
    have m1 : ac * bc ≤ 262144 ∧ -262144 ≤ ac * bc := by
      have e1 : (ac * bc).natAbs = ac.natAbs * bc.natAbs := Int.natAbs_mul ac bc
      have e2 : ac.natAbs * bc.natAbs ≤ 512 * 512 := Nat.mul_le_mul (by omega) (by omega)
      omega
    have hw : IntKind.i64.wrap (ac * bc) = ac * bc := by rw [IntKind.wrap_i64]; omega
    cases hf : conB (ac * bc) with
    | true =>
      have HF0 := hide hf
      have HT : tog 6 ac 6 bc = some ((6 : Int), ac * bc) := by show ifT (conB (ac * bc)) _ _ = _; rw [hf]; rfl
      have HRES : Hid (meI ⟨6, t, aa, ab, ac⟩ ⟨6, t, t, bb, bc⟩ = some (plI ⟨6, t, aa, 0, ac * bc⟩)) := hide (meI_some (a := ⟨6, t, aa, ab, ac⟩) (b := ⟨6, t, t, bb, bc⟩) ⟨rfl, rfl, rfl⟩ HT)
      have HX : Hid (mayB ⟨6, t, aa, 0, ac * bc⟩ 128 = true) := hide (tog_may (a := ⟨6, t, aa, ab, ac⟩) (b := ⟨6, t, t, bb, bc⟩) HI.out HJ.out rfl HT)
      clear HT
      obtain ⟨Y, hY⟩ : ∃ Y, Y = plI ⟨6, t, aa, 0, ac * bc⟩ := ⟨_, rfl⟩
      rw [← hY] at HRES
      have HY := hide hY
      clear hY
      generalize meI ⟨6, t, aa, ab, ac⟩ ⟨6, t, t, bb, bc⟩ = G at *
      clear hf
      go_enter Tryd.func25, Tryd.ntmps25
      go_upto_region 1 with fail
      have b1 := below_alloc w (.cells #[.int .i64 6, .int .i64 t, .int .i64 aa, .int .i64 ab, .int .i64 ac] 24)
      have b2 := below_alloc (w.alloc (.cells #[.int .i64 6, .int .i64 t, .int .i64 aa, .int .i64 ab, .int .i64 ac] 24)) (.cells #[.int .i64 6, .int .i64 t, .int .i64 t, .int .i64 bb, .int .i64 bc] 24)
      have b3 := below_alloc ((w.alloc (.cells #[.int .i64 6, .int .i64 t, .int .i64 aa, .int .i64 ab, .int .i64 ac] 24)).alloc (.cells #[.int .i64 6, .int .i64 t, .int .i64 t, .int .i64 bb, .int .i64 bc] 24)) (.cells #[.int .i64 0, .int .i64 0, .int .i64 0, .int .i64 0, .int .i64 0] 24)
      have IX0 := (((Box5.new w 24 ⟨6, t, aa, ab, ac⟩).step b2).step b3)
      replace IX0 : Hid (Box5 (((w.alloc (.cells #[.int .i64 6, .int .i64 t, .int .i64 aa, .int .i64 ab, .int .i64 ac] 24)).alloc (.cells #[.int .i64 6, .int .i64 t, .int .i64 t, .int .i64 bb, .int .i64 bc] 24)).alloc (.cells #[.int .i64 0, .int .i64 0, .int .i64 0, .int .i64 0, .int .i64 0] 24)) (w.heap.size) 24 ⟨6, t, aa, ab, ac⟩) := hide IX0
      have IX1 := ((Box5.new (w.alloc (.cells #[.int .i64 6, .int .i64 t, .int .i64 aa, .int .i64 ab, .int .i64 ac] 24)) 24 ⟨6, t, t, bb, bc⟩).step b3)
      simp only [World.size_alloc] at IX1
      replace IX1 : Hid (Box5 (((w.alloc (.cells #[.int .i64 6, .int .i64 t, .int .i64 aa, .int .i64 ab, .int .i64 ac] 24)).alloc (.cells #[.int .i64 6, .int .i64 t, .int .i64 t, .int .i64 bb, .int .i64 bc] 24)).alloc (.cells #[.int .i64 0, .int .i64 0, .int .i64 0, .int .i64 0, .int .i64 0] 24)) (w.heap.size + 1) 24 ⟨6, t, t, bb, bc⟩) := hide IX1
      have RX := (Box5.new ((w.alloc (.cells #[.int .i64 6, .int .i64 t, .int .i64 aa, .int .i64 ab, .int .i64 ac] 24)).alloc (.cells #[.int .i64 6, .int .i64 t, .int .i64 t, .int .i64 bb, .int .i64 bc] 24)) 24 ⟨0, 0, 0, 0, 0⟩)
      simp only [World.size_alloc] at RX
      replace RX : Hid (Box5 (((w.alloc (.cells #[.int .i64 6, .int .i64 t, .int .i64 aa, .int .i64 ab, .int .i64 ac] 24)).alloc (.cells #[.int .i64 6, .int .i64 t, .int .i64 t, .int .i64 bb, .int .i64 bc] 24)).alloc (.cells #[.int .i64 0, .int .i64 0, .int .i64 0, .int .i64 0, .int .i64 0] 24)) (w.heap.size + 1 + 1) 24 ⟨0, 0, 0, 0, 0⟩) := hide RX
      have HB := hide ((b1.trans (b2.mono b1.size)).trans (b3.mono (b1.trans (b2.mono b1.size)).size))
      clear b1 b2 b3
      generalize ((w.alloc (.cells #[.int .i64 6, .int .i64 t, .int .i64 aa, .int .i64 ab, .int .i64 ac] 24)).alloc (.cells #[.int .i64 6, .int .i64 t, .int .i64 t, .int .i64 bb, .int .i64 bc] 24)).alloc (.cells #[.int .i64 0, .int .i64 0, .int .i64 0, .int .i64 0, .int .i64 0] 24) = w1 at *
      obtain ⟨R, hR⟩ : ∃ B, B = w.heap.size + 1 + 1 := ⟨_, rfl⟩
      have ZR := hide hR
      try rw [show w.heap.size + 2 = w.heap.size + 1 + 1 from rfl]
      rw [← hR] at RX ⊢
      clear hR
      obtain ⟨B1, hB1⟩ : ∃ B, B = w.heap.size + 1 := ⟨_, rfl⟩
      have ZB1 := hide hB1
      rw [← hB1] at IX1 ⊢
      clear hB1
      obtain ⟨B0, hB0⟩ : ∃ B, B = w.heap.size := ⟨_, rfl⟩
      have ZB0 := hide hB0
      rw [← hB0] at IX0 ⊢
      clear hB0
      have k0 := IX0.out.cells.cell0
      have k1 := IX0.out.cells.cell1
      have k2 := IX0.out.cells.cell2
      have k3 := IX0.out.cells.cell3
      have k4 := IX0.out.cells.cell4
      simp only [Nat.zero_add] at k1 k2 k3 k4
      have l0 := IX1.out.cells.cell0
      have l1 := IX1.out.cells.cell1
      have l2 := IX1.out.cells.cell2
      have l3 := IX1.out.cells.cell3
      have l4 := IX1.out.cells.cell4
      simp only [Nat.zero_add] at l1 l2 l3 l4
      have q0 := RX.out.cells.cell0
      have q1 := RX.out.cells.cell1
      have q2 := RX.out.cells.cell2
      have q3 := RX.out.cells.cell3
      have q4 := RX.out.cells.cell4
      simp only [Nat.zero_add] at q1 q2 q3 q4
      have f0 := RX.out.free 0
      have f1 := RX.out.free 1
      have f2 := RX.out.free 2
      have f3 := RX.out.free 3
      have f4 := RX.out.free 4
      go_upto_region 3 with fail
      clear k0 k1 k2 k3 k4 l0 l1 l2 l3 l4 q0 q1 q2 q3 q4 f0 f1 f2 f3 f4
      refine wp_calm (fun w' => Below w.heap.size w w' ∧ Box5 w' B0 24 ⟨6, t, aa, ab, ac⟩ ∧ Box5 w' B1 24 ⟨6, t, t, bb, bc⟩ ∧ Box5 w' R 24 ⟨0, 0, 0, 0, 0⟩) (fun _ => true) 6 #[false, false, false, false, false, false] (by kernel_rfl) rfl rfl ?_
      have HF := hide (And.intro (HB.out.drew) (And.intro (IX0.out.drew) (And.intro (IX1.out.drew) (RX.out.drew))))
      generalize w1.drew = w1d at *
      refine Calm.takeL 6 (i := 0) (v := ?_) (a' := ?_) (l' := #[true, false, false, false, false, false]) (d := some 31) (by kernel_rfl) rfl (by kernel_rfl) (by kernel_rfl) (by kernel_rfl) (by kernel_rfl) (fun _ _ _ h => h) HF.out rfl ?_ rfl rfl ?_ ?_
      rotate_left
      · intro w' hF; clear hF; go_simp; try rfl
      rotate_left
      · simp only [Act.put]; exact rfl
      refine Calm.takeL 6 (i := 1) (v := ?_) (a' := ?_) (l' := #[true, true, false, false, false, false]) (d := some 32) (by kernel_rfl) rfl (by kernel_rfl) (by kernel_rfl) (by kernel_rfl) (by kernel_rfl) (fun _ _ _ h => h) HF.out rfl ?_ rfl rfl ?_ ?_
      rotate_left
      · intro w' hF; have f10 := hF.2.1.cells.cell0; have f11 := hF.2.1.cells.cell1; have f12 := hF.2.1.cells.cell2; have f13 := hF.2.1.cells.cell3; have f14 := hF.2.1.cells.cell4; simp only [Nat.zero_add] at f11 f12 f13 f14; have f20 := hF.2.2.1.cells.cell0; have f21 := hF.2.2.1.cells.cell1; have f22 := hF.2.2.1.cells.cell2; have f23 := hF.2.2.1.cells.cell3; have f24 := hF.2.2.1.cells.cell4; simp only [Nat.zero_add] at f21 f22 f23 f24; have f30 := hF.2.2.2.cells.cell0; have f31 := hF.2.2.2.cells.cell1; have f32 := hF.2.2.2.cells.cell2; have f33 := hF.2.2.2.cells.cell3; have f34 := hF.2.2.2.cells.cell4; simp only [Nat.zero_add] at f31 f32 f33 f34; clear hF; go_simp; try rfl
      rotate_left
      · simp only [Act.put]; exact rfl
      refine Calm.takeL 6 (i := 2) (v := ?_) (a' := ?_) (l' := #[true, true, true, false, false, false]) (d := some 33) (by kernel_rfl) rfl (by kernel_rfl) (by kernel_rfl) (by kernel_rfl) (by kernel_rfl) (fun _ _ _ h => h) HF.out rfl ?_ rfl rfl ?_ ?_
      rotate_left
      · intro w' hF; clear hF; go_simp; try rfl
      rotate_left
      · simp only [Act.put]; exact rfl
      refine Calm.takeL 6 (i := 3) (v := ?_) (a' := ?_) (l' := #[true, true, true, true, false, false]) (d := some 34) (by kernel_rfl) rfl (by kernel_rfl) (by kernel_rfl) (by kernel_rfl) (by kernel_rfl) (fun _ _ _ h => h) HF.out rfl ?_ rfl rfl ?_ ?_
      rotate_left
      · intro w' hF; have f10 := hF.2.1.cells.cell0; have f11 := hF.2.1.cells.cell1; have f12 := hF.2.1.cells.cell2; have f13 := hF.2.1.cells.cell3; have f14 := hF.2.1.cells.cell4; simp only [Nat.zero_add] at f11 f12 f13 f14; have f20 := hF.2.2.1.cells.cell0; have f21 := hF.2.2.1.cells.cell1; have f22 := hF.2.2.1.cells.cell2; have f23 := hF.2.2.1.cells.cell3; have f24 := hF.2.2.1.cells.cell4; simp only [Nat.zero_add] at f21 f22 f23 f24; have f30 := hF.2.2.2.cells.cell0; have f31 := hF.2.2.2.cells.cell1; have f32 := hF.2.2.2.cells.cell2; have f33 := hF.2.2.2.cells.cell3; have f34 := hF.2.2.2.cells.cell4; simp only [Nat.zero_add] at f31 f32 f33 f34; clear hF; go_simp; try rfl
      rotate_left
      · simp only [Act.put]; exact rfl
      refine Calm.takeL 6 (i := 4) (v := ?_) (a' := ?_) (l' := #[true, true, true, true, true, false]) (d := some 6) (by kernel_rfl) rfl (by kernel_rfl) (by kernel_rfl) (by kernel_rfl) (by kernel_rfl) (fun _ _ _ h => h) HF.out rfl ?_ rfl rfl ?_ ?_
      rotate_left
      · intro w' hF; clear hF; go_simp; try rfl
      rotate_left
      · simp only [Act.put]; exact rfl
      refine Calm.takeL 6 (i := 5) (v := ?_) (a' := ?_) (l' := #[true, true, true, true, true, true]) (d := some 7) (by kernel_rfl) rfl (by kernel_rfl) (by kernel_rfl) (by kernel_rfl) (by kernel_rfl) (fun _ _ _ h => h) HF.out rfl ?_ rfl rfl ?_ ?_
      rotate_left
      · intro w' hF; clear hF; go_simp; try rfl
      rotate_left
      · simp only [Act.put]; exact rfl
      refine Calm.done (by kernel_rfl) ?_
      replace HB := hide HF.out.1
      replace IX0 := hide HF.out.2.1
      replace IX1 := hide HF.out.2.2.1
      replace RX := hide HF.out.2.2.2
      clear HF
      have k0 := IX0.out.cells.cell0
      have k1 := IX0.out.cells.cell1
      have k2 := IX0.out.cells.cell2
      have k3 := IX0.out.cells.cell3
      have k4 := IX0.out.cells.cell4
      simp only [Nat.zero_add] at k1 k2 k3 k4
      have l0 := IX1.out.cells.cell0
      have l1 := IX1.out.cells.cell1
      have l2 := IX1.out.cells.cell2
      have l3 := IX1.out.cells.cell3
      have l4 := IX1.out.cells.cell4
      simp only [Nat.zero_add] at l1 l2 l3 l4
      have q0 := RX.out.cells.cell0
      have q1 := RX.out.cells.cell1
      have q2 := RX.out.cells.cell2
      have q3 := RX.out.cells.cell3
      have q4 := RX.out.cells.cell4
      simp only [Nat.zero_add] at q1 q2 q3 q4
      have f0 := RX.out.free 0
      have f1 := RX.out.free 1
      have f2 := RX.out.free 2
      have f3 := RX.out.free 3
      have f4 := RX.out.free 4
      go_wp2_with fail
      refine (rfits_any (ac * bc) _).mono ?_
      rintro e w2 ⟨rfl, rfl⟩
      rw [HF0.out]
      go_wp2_with fail
      refine (rout_any ⟨6, t, aa, ab, ac⟩ ⟨6, t, t, bb, bc⟩ (6) (ac * bc) _ HX.out).mono ?_
      rintro e w3 ⟨rfl, hb⟩
      replace RX := hide (RX.out.step hb)
      replace HB := hide (HB.out.trans (hb.mono HB.out.size))
      clear k0 k1 k2 k3 k4 l0 l1 l2 l3 l4 q0 q1 q2 q3 q4 f0 f1 f2 f3 f4 hb
      have q0 := RX.out.cells.cell0
      have q1 := RX.out.cells.cell1
      have q2 := RX.out.cells.cell2
      have q3 := RX.out.cells.cell3
      have q4 := RX.out.cells.cell4
      simp only [Nat.zero_add] at q1 q2 q3 q4
      have f0 := RX.out.free 0
      have f1 := RX.out.free 1
      have f2 := RX.out.free 2
      have f3 := RX.out.free 3
      have f4 := RX.out.free 4
      rw [← HY.out]
      go_wp2
      refine ret_insb rfl R Y rfl (RX.out.put Y) rfl ⟨by rw [HRES.out]; rfl, ?_⟩
      exact below_put5 HB.out (by have := ZR.out; omega) _ _ _ _ _
    | false =>
      have HF0 := hide hf
      have HRES : Hid (meI ⟨6, t, aa, ab, ac⟩ ⟨6, t, t, bb, bc⟩ = none) := hide (meI_none (a := ⟨6, t, aa, ab, ac⟩) (b := ⟨6, t, t, bb, bc⟩) (by show ifT (conB (ac * bc)) _ _ = _; rw [hf]; rfl))
      generalize meI ⟨6, t, aa, ab, ac⟩ ⟨6, t, t, bb, bc⟩ = G at *
      clear hf
      go_enter Tryd.func25, Tryd.ntmps25
      go_upto_region 1 with fail
      have b1 := below_alloc w (.cells #[.int .i64 6, .int .i64 t, .int .i64 aa, .int .i64 ab, .int .i64 ac] 24)
      have b2 := below_alloc (w.alloc (.cells #[.int .i64 6, .int .i64 t, .int .i64 aa, .int .i64 ab, .int .i64 ac] 24)) (.cells #[.int .i64 6, .int .i64 t, .int .i64 t, .int .i64 bb, .int .i64 bc] 24)
      have b3 := below_alloc ((w.alloc (.cells #[.int .i64 6, .int .i64 t, .int .i64 aa, .int .i64 ab, .int .i64 ac] 24)).alloc (.cells #[.int .i64 6, .int .i64 t, .int .i64 t, .int .i64 bb, .int .i64 bc] 24)) (.cells #[.int .i64 0, .int .i64 0, .int .i64 0, .int .i64 0, .int .i64 0] 24)
      have IX0 := (((Box5.new w 24 ⟨6, t, aa, ab, ac⟩).step b2).step b3)
      replace IX0 : Hid (Box5 (((w.alloc (.cells #[.int .i64 6, .int .i64 t, .int .i64 aa, .int .i64 ab, .int .i64 ac] 24)).alloc (.cells #[.int .i64 6, .int .i64 t, .int .i64 t, .int .i64 bb, .int .i64 bc] 24)).alloc (.cells #[.int .i64 0, .int .i64 0, .int .i64 0, .int .i64 0, .int .i64 0] 24)) (w.heap.size) 24 ⟨6, t, aa, ab, ac⟩) := hide IX0
      have IX1 := ((Box5.new (w.alloc (.cells #[.int .i64 6, .int .i64 t, .int .i64 aa, .int .i64 ab, .int .i64 ac] 24)) 24 ⟨6, t, t, bb, bc⟩).step b3)
      simp only [World.size_alloc] at IX1
      replace IX1 : Hid (Box5 (((w.alloc (.cells #[.int .i64 6, .int .i64 t, .int .i64 aa, .int .i64 ab, .int .i64 ac] 24)).alloc (.cells #[.int .i64 6, .int .i64 t, .int .i64 t, .int .i64 bb, .int .i64 bc] 24)).alloc (.cells #[.int .i64 0, .int .i64 0, .int .i64 0, .int .i64 0, .int .i64 0] 24)) (w.heap.size + 1) 24 ⟨6, t, t, bb, bc⟩) := hide IX1
      have RX := (Box5.new ((w.alloc (.cells #[.int .i64 6, .int .i64 t, .int .i64 aa, .int .i64 ab, .int .i64 ac] 24)).alloc (.cells #[.int .i64 6, .int .i64 t, .int .i64 t, .int .i64 bb, .int .i64 bc] 24)) 24 ⟨0, 0, 0, 0, 0⟩)
      simp only [World.size_alloc] at RX
      replace RX : Hid (Box5 (((w.alloc (.cells #[.int .i64 6, .int .i64 t, .int .i64 aa, .int .i64 ab, .int .i64 ac] 24)).alloc (.cells #[.int .i64 6, .int .i64 t, .int .i64 t, .int .i64 bb, .int .i64 bc] 24)).alloc (.cells #[.int .i64 0, .int .i64 0, .int .i64 0, .int .i64 0, .int .i64 0] 24)) (w.heap.size + 1 + 1) 24 ⟨0, 0, 0, 0, 0⟩) := hide RX
      have HB := hide ((b1.trans (b2.mono b1.size)).trans (b3.mono (b1.trans (b2.mono b1.size)).size))
      clear b1 b2 b3
      generalize ((w.alloc (.cells #[.int .i64 6, .int .i64 t, .int .i64 aa, .int .i64 ab, .int .i64 ac] 24)).alloc (.cells #[.int .i64 6, .int .i64 t, .int .i64 t, .int .i64 bb, .int .i64 bc] 24)).alloc (.cells #[.int .i64 0, .int .i64 0, .int .i64 0, .int .i64 0, .int .i64 0] 24) = w1 at *
      obtain ⟨R, hR⟩ : ∃ B, B = w.heap.size + 1 + 1 := ⟨_, rfl⟩
      have ZR := hide hR
      try rw [show w.heap.size + 2 = w.heap.size + 1 + 1 from rfl]
      rw [← hR] at RX ⊢
      clear hR
      obtain ⟨B1, hB1⟩ : ∃ B, B = w.heap.size + 1 := ⟨_, rfl⟩
      have ZB1 := hide hB1
      rw [← hB1] at IX1 ⊢
      clear hB1
      obtain ⟨B0, hB0⟩ : ∃ B, B = w.heap.size := ⟨_, rfl⟩
      have ZB0 := hide hB0
      rw [← hB0] at IX0 ⊢
      clear hB0
      have k0 := IX0.out.cells.cell0
      have k1 := IX0.out.cells.cell1
      have k2 := IX0.out.cells.cell2
      have k3 := IX0.out.cells.cell3
      have k4 := IX0.out.cells.cell4
      simp only [Nat.zero_add] at k1 k2 k3 k4
      have l0 := IX1.out.cells.cell0
      have l1 := IX1.out.cells.cell1
      have l2 := IX1.out.cells.cell2
      have l3 := IX1.out.cells.cell3
      have l4 := IX1.out.cells.cell4
      simp only [Nat.zero_add] at l1 l2 l3 l4
      have q0 := RX.out.cells.cell0
      have q1 := RX.out.cells.cell1
      have q2 := RX.out.cells.cell2
      have q3 := RX.out.cells.cell3
      have q4 := RX.out.cells.cell4
      simp only [Nat.zero_add] at q1 q2 q3 q4
      have f0 := RX.out.free 0
      have f1 := RX.out.free 1
      have f2 := RX.out.free 2
      have f3 := RX.out.free 3
      have f4 := RX.out.free 4
      go_upto_region 3 with fail
      clear k0 k1 k2 k3 k4 l0 l1 l2 l3 l4 q0 q1 q2 q3 q4 f0 f1 f2 f3 f4
      refine wp_calm (fun w' => Below w.heap.size w w' ∧ Box5 w' B0 24 ⟨6, t, aa, ab, ac⟩ ∧ Box5 w' B1 24 ⟨6, t, t, bb, bc⟩ ∧ Box5 w' R 24 ⟨0, 0, 0, 0, 0⟩) (fun _ => true) 6 #[false, false, false, false, false, false] (by kernel_rfl) rfl rfl ?_
      have HF := hide (And.intro (HB.out.drew) (And.intro (IX0.out.drew) (And.intro (IX1.out.drew) (RX.out.drew))))
      generalize w1.drew = w1d at *
      refine Calm.takeL 6 (i := 0) (v := ?_) (a' := ?_) (l' := #[true, false, false, false, false, false]) (d := some 31) (by kernel_rfl) rfl (by kernel_rfl) (by kernel_rfl) (by kernel_rfl) (by kernel_rfl) (fun _ _ _ h => h) HF.out rfl ?_ rfl rfl ?_ ?_
      rotate_left
      · intro w' hF; clear hF; go_simp; try rfl
      rotate_left
      · simp only [Act.put]; exact rfl
      refine Calm.takeL 6 (i := 1) (v := ?_) (a' := ?_) (l' := #[true, true, false, false, false, false]) (d := some 32) (by kernel_rfl) rfl (by kernel_rfl) (by kernel_rfl) (by kernel_rfl) (by kernel_rfl) (fun _ _ _ h => h) HF.out rfl ?_ rfl rfl ?_ ?_
      rotate_left
      · intro w' hF; have f10 := hF.2.1.cells.cell0; have f11 := hF.2.1.cells.cell1; have f12 := hF.2.1.cells.cell2; have f13 := hF.2.1.cells.cell3; have f14 := hF.2.1.cells.cell4; simp only [Nat.zero_add] at f11 f12 f13 f14; have f20 := hF.2.2.1.cells.cell0; have f21 := hF.2.2.1.cells.cell1; have f22 := hF.2.2.1.cells.cell2; have f23 := hF.2.2.1.cells.cell3; have f24 := hF.2.2.1.cells.cell4; simp only [Nat.zero_add] at f21 f22 f23 f24; have f30 := hF.2.2.2.cells.cell0; have f31 := hF.2.2.2.cells.cell1; have f32 := hF.2.2.2.cells.cell2; have f33 := hF.2.2.2.cells.cell3; have f34 := hF.2.2.2.cells.cell4; simp only [Nat.zero_add] at f31 f32 f33 f34; clear hF; go_simp; try rfl
      rotate_left
      · simp only [Act.put]; exact rfl
      refine Calm.takeL 6 (i := 2) (v := ?_) (a' := ?_) (l' := #[true, true, true, false, false, false]) (d := some 33) (by kernel_rfl) rfl (by kernel_rfl) (by kernel_rfl) (by kernel_rfl) (by kernel_rfl) (fun _ _ _ h => h) HF.out rfl ?_ rfl rfl ?_ ?_
      rotate_left
      · intro w' hF; clear hF; go_simp; try rfl
      rotate_left
      · simp only [Act.put]; exact rfl
      refine Calm.takeL 6 (i := 3) (v := ?_) (a' := ?_) (l' := #[true, true, true, true, false, false]) (d := some 34) (by kernel_rfl) rfl (by kernel_rfl) (by kernel_rfl) (by kernel_rfl) (by kernel_rfl) (fun _ _ _ h => h) HF.out rfl ?_ rfl rfl ?_ ?_
      rotate_left
      · intro w' hF; have f10 := hF.2.1.cells.cell0; have f11 := hF.2.1.cells.cell1; have f12 := hF.2.1.cells.cell2; have f13 := hF.2.1.cells.cell3; have f14 := hF.2.1.cells.cell4; simp only [Nat.zero_add] at f11 f12 f13 f14; have f20 := hF.2.2.1.cells.cell0; have f21 := hF.2.2.1.cells.cell1; have f22 := hF.2.2.1.cells.cell2; have f23 := hF.2.2.1.cells.cell3; have f24 := hF.2.2.1.cells.cell4; simp only [Nat.zero_add] at f21 f22 f23 f24; have f30 := hF.2.2.2.cells.cell0; have f31 := hF.2.2.2.cells.cell1; have f32 := hF.2.2.2.cells.cell2; have f33 := hF.2.2.2.cells.cell3; have f34 := hF.2.2.2.cells.cell4; simp only [Nat.zero_add] at f31 f32 f33 f34; clear hF; go_simp; try rfl
      rotate_left
      · simp only [Act.put]; exact rfl
      refine Calm.takeL 6 (i := 4) (v := ?_) (a' := ?_) (l' := #[true, true, true, true, true, false]) (d := some 6) (by kernel_rfl) rfl (by kernel_rfl) (by kernel_rfl) (by kernel_rfl) (by kernel_rfl) (fun _ _ _ h => h) HF.out rfl ?_ rfl rfl ?_ ?_
      rotate_left
      · intro w' hF; clear hF; go_simp; try rfl
      rotate_left
      · simp only [Act.put]; exact rfl
      refine Calm.takeL 6 (i := 5) (v := ?_) (a' := ?_) (l' := #[true, true, true, true, true, true]) (d := some 7) (by kernel_rfl) rfl (by kernel_rfl) (by kernel_rfl) (by kernel_rfl) (by kernel_rfl) (fun _ _ _ h => h) HF.out rfl ?_ rfl rfl ?_ ?_
      rotate_left
      · intro w' hF; clear hF; go_simp; try rfl
      rotate_left
      · simp only [Act.put]; exact rfl
      refine Calm.done (by kernel_rfl) ?_
      replace HB := hide HF.out.1
      replace IX0 := hide HF.out.2.1
      replace IX1 := hide HF.out.2.2.1
      replace RX := hide HF.out.2.2.2
      clear HF
      have k0 := IX0.out.cells.cell0
      have k1 := IX0.out.cells.cell1
      have k2 := IX0.out.cells.cell2
      have k3 := IX0.out.cells.cell3
      have k4 := IX0.out.cells.cell4
      simp only [Nat.zero_add] at k1 k2 k3 k4
      have l0 := IX1.out.cells.cell0
      have l1 := IX1.out.cells.cell1
      have l2 := IX1.out.cells.cell2
      have l3 := IX1.out.cells.cell3
      have l4 := IX1.out.cells.cell4
      simp only [Nat.zero_add] at l1 l2 l3 l4
      have q0 := RX.out.cells.cell0
      have q1 := RX.out.cells.cell1
      have q2 := RX.out.cells.cell2
      have q3 := RX.out.cells.cell3
      have q4 := RX.out.cells.cell4
      simp only [Nat.zero_add] at q1 q2 q3 q4
      have f0 := RX.out.free 0
      have f1 := RX.out.free 1
      have f2 := RX.out.free 2
      have f3 := RX.out.free 3
      have f4 := RX.out.free 4
      go_wp2_with fail
      refine (rfits_any (ac * bc) _).mono ?_
      rintro e w2 ⟨rfl, rfl⟩
      rw [HF0.out]
      go_wp2
      refine ret_insb rfl R ⟨0, 0, 0, 0, 0⟩ rfl (RX.out.put ⟨0, 0, 0, 0, 0⟩) rfl ⟨by rw [HRES.out]; rfl, ?_⟩
      exact below_put5 HB.out (by have := ZR.out; omega) _ _ _ _ _
  · skip
    obtain ⟨b0, b1⟩ : 1 ≤ bc ∧ bc ≤ 64 := by omega
    clear hi hj
    have HRES : Hid (meI ⟨6, t, aa, ab, ac⟩ ⟨7, t, t, bb, bc⟩ = none) := hide (meI_none (a := ⟨6, t, aa, ab, ac⟩) (b := ⟨7, t, t, bb, bc⟩) (rfl))
    generalize meI ⟨6, t, aa, ab, ac⟩ ⟨7, t, t, bb, bc⟩ = G at *
    go_enter Tryd.func25, Tryd.ntmps25
    go_upto_region 1 with fail
    have b1 := below_alloc w (.cells #[.int .i64 6, .int .i64 t, .int .i64 aa, .int .i64 ab, .int .i64 ac] 24)
    have b2 := below_alloc (w.alloc (.cells #[.int .i64 6, .int .i64 t, .int .i64 aa, .int .i64 ab, .int .i64 ac] 24)) (.cells #[.int .i64 7, .int .i64 t, .int .i64 t, .int .i64 bb, .int .i64 bc] 24)
    have b3 := below_alloc ((w.alloc (.cells #[.int .i64 6, .int .i64 t, .int .i64 aa, .int .i64 ab, .int .i64 ac] 24)).alloc (.cells #[.int .i64 7, .int .i64 t, .int .i64 t, .int .i64 bb, .int .i64 bc] 24)) (.cells #[.int .i64 0, .int .i64 0, .int .i64 0, .int .i64 0, .int .i64 0] 24)
    have IX0 := (((Box5.new w 24 ⟨6, t, aa, ab, ac⟩).step b2).step b3)
    replace IX0 : Hid (Box5 (((w.alloc (.cells #[.int .i64 6, .int .i64 t, .int .i64 aa, .int .i64 ab, .int .i64 ac] 24)).alloc (.cells #[.int .i64 7, .int .i64 t, .int .i64 t, .int .i64 bb, .int .i64 bc] 24)).alloc (.cells #[.int .i64 0, .int .i64 0, .int .i64 0, .int .i64 0, .int .i64 0] 24)) (w.heap.size) 24 ⟨6, t, aa, ab, ac⟩) := hide IX0
    have IX1 := ((Box5.new (w.alloc (.cells #[.int .i64 6, .int .i64 t, .int .i64 aa, .int .i64 ab, .int .i64 ac] 24)) 24 ⟨7, t, t, bb, bc⟩).step b3)
    simp only [World.size_alloc] at IX1
    replace IX1 : Hid (Box5 (((w.alloc (.cells #[.int .i64 6, .int .i64 t, .int .i64 aa, .int .i64 ab, .int .i64 ac] 24)).alloc (.cells #[.int .i64 7, .int .i64 t, .int .i64 t, .int .i64 bb, .int .i64 bc] 24)).alloc (.cells #[.int .i64 0, .int .i64 0, .int .i64 0, .int .i64 0, .int .i64 0] 24)) (w.heap.size + 1) 24 ⟨7, t, t, bb, bc⟩) := hide IX1
    have RX := (Box5.new ((w.alloc (.cells #[.int .i64 6, .int .i64 t, .int .i64 aa, .int .i64 ab, .int .i64 ac] 24)).alloc (.cells #[.int .i64 7, .int .i64 t, .int .i64 t, .int .i64 bb, .int .i64 bc] 24)) 24 ⟨0, 0, 0, 0, 0⟩)
    simp only [World.size_alloc] at RX
    replace RX : Hid (Box5 (((w.alloc (.cells #[.int .i64 6, .int .i64 t, .int .i64 aa, .int .i64 ab, .int .i64 ac] 24)).alloc (.cells #[.int .i64 7, .int .i64 t, .int .i64 t, .int .i64 bb, .int .i64 bc] 24)).alloc (.cells #[.int .i64 0, .int .i64 0, .int .i64 0, .int .i64 0, .int .i64 0] 24)) (w.heap.size + 1 + 1) 24 ⟨0, 0, 0, 0, 0⟩) := hide RX
    have HB := hide ((b1.trans (b2.mono b1.size)).trans (b3.mono (b1.trans (b2.mono b1.size)).size))
    clear b1 b2 b3
    generalize ((w.alloc (.cells #[.int .i64 6, .int .i64 t, .int .i64 aa, .int .i64 ab, .int .i64 ac] 24)).alloc (.cells #[.int .i64 7, .int .i64 t, .int .i64 t, .int .i64 bb, .int .i64 bc] 24)).alloc (.cells #[.int .i64 0, .int .i64 0, .int .i64 0, .int .i64 0, .int .i64 0] 24) = w1 at *
    obtain ⟨R, hR⟩ : ∃ B, B = w.heap.size + 1 + 1 := ⟨_, rfl⟩
    have ZR := hide hR
    try rw [show w.heap.size + 2 = w.heap.size + 1 + 1 from rfl]
    rw [← hR] at RX ⊢
    clear hR
    obtain ⟨B1, hB1⟩ : ∃ B, B = w.heap.size + 1 := ⟨_, rfl⟩
    have ZB1 := hide hB1
    rw [← hB1] at IX1 ⊢
    clear hB1
    obtain ⟨B0, hB0⟩ : ∃ B, B = w.heap.size := ⟨_, rfl⟩
    have ZB0 := hide hB0
    rw [← hB0] at IX0 ⊢
    clear hB0
    have k0 := IX0.out.cells.cell0
    have k1 := IX0.out.cells.cell1
    have k2 := IX0.out.cells.cell2
    have k3 := IX0.out.cells.cell3
    have k4 := IX0.out.cells.cell4
    simp only [Nat.zero_add] at k1 k2 k3 k4
    have l0 := IX1.out.cells.cell0
    have l1 := IX1.out.cells.cell1
    have l2 := IX1.out.cells.cell2
    have l3 := IX1.out.cells.cell3
    have l4 := IX1.out.cells.cell4
    simp only [Nat.zero_add] at l1 l2 l3 l4
    have q0 := RX.out.cells.cell0
    have q1 := RX.out.cells.cell1
    have q2 := RX.out.cells.cell2
    have q3 := RX.out.cells.cell3
    have q4 := RX.out.cells.cell4
    simp only [Nat.zero_add] at q1 q2 q3 q4
    have f0 := RX.out.free 0
    have f1 := RX.out.free 1
    have f2 := RX.out.free 2
    have f3 := RX.out.free 3
    have f4 := RX.out.free 4
    go_upto_region 3 with fail
    clear k0 k1 k2 k3 k4 l0 l1 l2 l3 l4 q0 q1 q2 q3 q4 f0 f1 f2 f3 f4
    refine wp_calm (fun w' => Below w.heap.size w w' ∧ Box5 w' B0 24 ⟨6, t, aa, ab, ac⟩ ∧ Box5 w' B1 24 ⟨7, t, t, bb, bc⟩ ∧ Box5 w' R 24 ⟨0, 0, 0, 0, 0⟩) (fun _ => true) 6 #[false, false, false, false, false, false] (by kernel_rfl) rfl rfl ?_
    have HF := hide (And.intro (HB.out.drew) (And.intro (IX0.out.drew) (And.intro (IX1.out.drew) (RX.out.drew))))
    generalize w1.drew = w1d at *
    refine Calm.takeL 6 (i := 0) (v := ?_) (a' := ?_) (l' := #[true, false, false, false, false, false]) (d := some 31) (by kernel_rfl) rfl (by kernel_rfl) (by kernel_rfl) (by kernel_rfl) (by kernel_rfl) (fun _ _ _ h => h) HF.out rfl ?_ rfl rfl ?_ ?_
    rotate_left
    · intro w' hF; clear hF; go_simp; try rfl
    rotate_left
    · simp only [Act.put]; exact rfl
    refine Calm.takeL 6 (i := 1) (v := ?_) (a' := ?_) (l' := #[true, true, false, false, false, false]) (d := some 32) (by kernel_rfl) rfl (by kernel_rfl) (by kernel_rfl) (by kernel_rfl) (by kernel_rfl) (fun _ _ _ h => h) HF.out rfl ?_ rfl rfl ?_ ?_
    rotate_left
    · intro w' hF; have f10 := hF.2.1.cells.cell0; have f11 := hF.2.1.cells.cell1; have f12 := hF.2.1.cells.cell2; have f13 := hF.2.1.cells.cell3; have f14 := hF.2.1.cells.cell4; simp only [Nat.zero_add] at f11 f12 f13 f14; have f20 := hF.2.2.1.cells.cell0; have f21 := hF.2.2.1.cells.cell1; have f22 := hF.2.2.1.cells.cell2; have f23 := hF.2.2.1.cells.cell3; have f24 := hF.2.2.1.cells.cell4; simp only [Nat.zero_add] at f21 f22 f23 f24; have f30 := hF.2.2.2.cells.cell0; have f31 := hF.2.2.2.cells.cell1; have f32 := hF.2.2.2.cells.cell2; have f33 := hF.2.2.2.cells.cell3; have f34 := hF.2.2.2.cells.cell4; simp only [Nat.zero_add] at f31 f32 f33 f34; clear hF; go_simp; try rfl
    rotate_left
    · simp only [Act.put]; exact rfl
    refine Calm.takeL 6 (i := 2) (v := ?_) (a' := ?_) (l' := #[true, true, true, false, false, false]) (d := some 33) (by kernel_rfl) rfl (by kernel_rfl) (by kernel_rfl) (by kernel_rfl) (by kernel_rfl) (fun _ _ _ h => h) HF.out rfl ?_ rfl rfl ?_ ?_
    rotate_left
    · intro w' hF; clear hF; go_simp; try rfl
    rotate_left
    · simp only [Act.put]; exact rfl
    refine Calm.takeL 6 (i := 3) (v := ?_) (a' := ?_) (l' := #[true, true, true, true, false, false]) (d := some 34) (by kernel_rfl) rfl (by kernel_rfl) (by kernel_rfl) (by kernel_rfl) (by kernel_rfl) (fun _ _ _ h => h) HF.out rfl ?_ rfl rfl ?_ ?_
    rotate_left
    · intro w' hF; have f10 := hF.2.1.cells.cell0; have f11 := hF.2.1.cells.cell1; have f12 := hF.2.1.cells.cell2; have f13 := hF.2.1.cells.cell3; have f14 := hF.2.1.cells.cell4; simp only [Nat.zero_add] at f11 f12 f13 f14; have f20 := hF.2.2.1.cells.cell0; have f21 := hF.2.2.1.cells.cell1; have f22 := hF.2.2.1.cells.cell2; have f23 := hF.2.2.1.cells.cell3; have f24 := hF.2.2.1.cells.cell4; simp only [Nat.zero_add] at f21 f22 f23 f24; have f30 := hF.2.2.2.cells.cell0; have f31 := hF.2.2.2.cells.cell1; have f32 := hF.2.2.2.cells.cell2; have f33 := hF.2.2.2.cells.cell3; have f34 := hF.2.2.2.cells.cell4; simp only [Nat.zero_add] at f31 f32 f33 f34; clear hF; go_simp; try rfl
    rotate_left
    · simp only [Act.put]; exact rfl
    refine Calm.takeL 6 (i := 4) (v := ?_) (a' := ?_) (l' := #[true, true, true, true, true, false]) (d := some 6) (by kernel_rfl) rfl (by kernel_rfl) (by kernel_rfl) (by kernel_rfl) (by kernel_rfl) (fun _ _ _ h => h) HF.out rfl ?_ rfl rfl ?_ ?_
    rotate_left
    · intro w' hF; clear hF; go_simp; try rfl
    rotate_left
    · simp only [Act.put]; exact rfl
    refine Calm.takeL 6 (i := 5) (v := ?_) (a' := ?_) (l' := #[true, true, true, true, true, true]) (d := some 7) (by kernel_rfl) rfl (by kernel_rfl) (by kernel_rfl) (by kernel_rfl) (by kernel_rfl) (fun _ _ _ h => h) HF.out rfl ?_ rfl rfl ?_ ?_
    rotate_left
    · intro w' hF; clear hF; go_simp; try rfl
    rotate_left
    · simp only [Act.put]; exact rfl
    refine Calm.done (by kernel_rfl) ?_
    replace HB := hide HF.out.1
    replace IX0 := hide HF.out.2.1
    replace IX1 := hide HF.out.2.2.1
    replace RX := hide HF.out.2.2.2
    clear HF
    have k0 := IX0.out.cells.cell0
    have k1 := IX0.out.cells.cell1
    have k2 := IX0.out.cells.cell2
    have k3 := IX0.out.cells.cell3
    have k4 := IX0.out.cells.cell4
    simp only [Nat.zero_add] at k1 k2 k3 k4
    have l0 := IX1.out.cells.cell0
    have l1 := IX1.out.cells.cell1
    have l2 := IX1.out.cells.cell2
    have l3 := IX1.out.cells.cell3
    have l4 := IX1.out.cells.cell4
    simp only [Nat.zero_add] at l1 l2 l3 l4
    have q0 := RX.out.cells.cell0
    have q1 := RX.out.cells.cell1
    have q2 := RX.out.cells.cell2
    have q3 := RX.out.cells.cell3
    have q4 := RX.out.cells.cell4
    simp only [Nat.zero_add] at q1 q2 q3 q4
    have f0 := RX.out.free 0
    have f1 := RX.out.free 1
    have f2 := RX.out.free 2
    have f3 := RX.out.free 3
    have f4 := RX.out.free 4
    go_wp2
    refine ret_insb rfl R ⟨0, 0, 0, 0, 0⟩ rfl (RX.out.put ⟨0, 0, 0, 0, 0⟩) rfl ⟨by rw [HRES.out]; rfl, ?_⟩
    exact below_put5 HB.out (by have := ZR.out; omega) _ _ _ _ _
  · skip
    obtain ⟨b0, b1⟩ : 1 ≤ bc ∧ bc ≤ 64 := by omega
    clear hi hj
    have HRES : Hid (meI ⟨6, t, aa, ab, ac⟩ ⟨8, t, t, bb, bc⟩ = none) := hide (meI_none (a := ⟨6, t, aa, ab, ac⟩) (b := ⟨8, t, t, bb, bc⟩) (rfl))
    generalize meI ⟨6, t, aa, ab, ac⟩ ⟨8, t, t, bb, bc⟩ = G at *
    go_enter Tryd.func25, Tryd.ntmps25
    go_upto_region 1 with fail
    have b1 := below_alloc w (.cells #[.int .i64 6, .int .i64 t, .int .i64 aa, .int .i64 ab, .int .i64 ac] 24)
    have b2 := below_alloc (w.alloc (.cells #[.int .i64 6, .int .i64 t, .int .i64 aa, .int .i64 ab, .int .i64 ac] 24)) (.cells #[.int .i64 8, .int .i64 t, .int .i64 t, .int .i64 bb, .int .i64 bc] 24)
    have b3 := below_alloc ((w.alloc (.cells #[.int .i64 6, .int .i64 t, .int .i64 aa, .int .i64 ab, .int .i64 ac] 24)).alloc (.cells #[.int .i64 8, .int .i64 t, .int .i64 t, .int .i64 bb, .int .i64 bc] 24)) (.cells #[.int .i64 0, .int .i64 0, .int .i64 0, .int .i64 0, .int .i64 0] 24)
    have IX0 := (((Box5.new w 24 ⟨6, t, aa, ab, ac⟩).step b2).step b3)
    replace IX0 : Hid (Box5 (((w.alloc (.cells #[.int .i64 6, .int .i64 t, .int .i64 aa, .int .i64 ab, .int .i64 ac] 24)).alloc (.cells #[.int .i64 8, .int .i64 t, .int .i64 t, .int .i64 bb, .int .i64 bc] 24)).alloc (.cells #[.int .i64 0, .int .i64 0, .int .i64 0, .int .i64 0, .int .i64 0] 24)) (w.heap.size) 24 ⟨6, t, aa, ab, ac⟩) := hide IX0
    have IX1 := ((Box5.new (w.alloc (.cells #[.int .i64 6, .int .i64 t, .int .i64 aa, .int .i64 ab, .int .i64 ac] 24)) 24 ⟨8, t, t, bb, bc⟩).step b3)
    simp only [World.size_alloc] at IX1
    replace IX1 : Hid (Box5 (((w.alloc (.cells #[.int .i64 6, .int .i64 t, .int .i64 aa, .int .i64 ab, .int .i64 ac] 24)).alloc (.cells #[.int .i64 8, .int .i64 t, .int .i64 t, .int .i64 bb, .int .i64 bc] 24)).alloc (.cells #[.int .i64 0, .int .i64 0, .int .i64 0, .int .i64 0, .int .i64 0] 24)) (w.heap.size + 1) 24 ⟨8, t, t, bb, bc⟩) := hide IX1
    have RX := (Box5.new ((w.alloc (.cells #[.int .i64 6, .int .i64 t, .int .i64 aa, .int .i64 ab, .int .i64 ac] 24)).alloc (.cells #[.int .i64 8, .int .i64 t, .int .i64 t, .int .i64 bb, .int .i64 bc] 24)) 24 ⟨0, 0, 0, 0, 0⟩)
    simp only [World.size_alloc] at RX
    replace RX : Hid (Box5 (((w.alloc (.cells #[.int .i64 6, .int .i64 t, .int .i64 aa, .int .i64 ab, .int .i64 ac] 24)).alloc (.cells #[.int .i64 8, .int .i64 t, .int .i64 t, .int .i64 bb, .int .i64 bc] 24)).alloc (.cells #[.int .i64 0, .int .i64 0, .int .i64 0, .int .i64 0, .int .i64 0] 24)) (w.heap.size + 1 + 1) 24 ⟨0, 0, 0, 0, 0⟩) := hide RX
    have HB := hide ((b1.trans (b2.mono b1.size)).trans (b3.mono (b1.trans (b2.mono b1.size)).size))
    clear b1 b2 b3
    generalize ((w.alloc (.cells #[.int .i64 6, .int .i64 t, .int .i64 aa, .int .i64 ab, .int .i64 ac] 24)).alloc (.cells #[.int .i64 8, .int .i64 t, .int .i64 t, .int .i64 bb, .int .i64 bc] 24)).alloc (.cells #[.int .i64 0, .int .i64 0, .int .i64 0, .int .i64 0, .int .i64 0] 24) = w1 at *
    obtain ⟨R, hR⟩ : ∃ B, B = w.heap.size + 1 + 1 := ⟨_, rfl⟩
    have ZR := hide hR
    try rw [show w.heap.size + 2 = w.heap.size + 1 + 1 from rfl]
    rw [← hR] at RX ⊢
    clear hR
    obtain ⟨B1, hB1⟩ : ∃ B, B = w.heap.size + 1 := ⟨_, rfl⟩
    have ZB1 := hide hB1
    rw [← hB1] at IX1 ⊢
    clear hB1
    obtain ⟨B0, hB0⟩ : ∃ B, B = w.heap.size := ⟨_, rfl⟩
    have ZB0 := hide hB0
    rw [← hB0] at IX0 ⊢
    clear hB0
    have k0 := IX0.out.cells.cell0
    have k1 := IX0.out.cells.cell1
    have k2 := IX0.out.cells.cell2
    have k3 := IX0.out.cells.cell3
    have k4 := IX0.out.cells.cell4
    simp only [Nat.zero_add] at k1 k2 k3 k4
    have l0 := IX1.out.cells.cell0
    have l1 := IX1.out.cells.cell1
    have l2 := IX1.out.cells.cell2
    have l3 := IX1.out.cells.cell3
    have l4 := IX1.out.cells.cell4
    simp only [Nat.zero_add] at l1 l2 l3 l4
    have q0 := RX.out.cells.cell0
    have q1 := RX.out.cells.cell1
    have q2 := RX.out.cells.cell2
    have q3 := RX.out.cells.cell3
    have q4 := RX.out.cells.cell4
    simp only [Nat.zero_add] at q1 q2 q3 q4
    have f0 := RX.out.free 0
    have f1 := RX.out.free 1
    have f2 := RX.out.free 2
    have f3 := RX.out.free 3
    have f4 := RX.out.free 4
    go_upto_region 3 with fail
    clear k0 k1 k2 k3 k4 l0 l1 l2 l3 l4 q0 q1 q2 q3 q4 f0 f1 f2 f3 f4
    refine wp_calm (fun w' => Below w.heap.size w w' ∧ Box5 w' B0 24 ⟨6, t, aa, ab, ac⟩ ∧ Box5 w' B1 24 ⟨8, t, t, bb, bc⟩ ∧ Box5 w' R 24 ⟨0, 0, 0, 0, 0⟩) (fun _ => true) 6 #[false, false, false, false, false, false] (by kernel_rfl) rfl rfl ?_
    have HF := hide (And.intro (HB.out.drew) (And.intro (IX0.out.drew) (And.intro (IX1.out.drew) (RX.out.drew))))
    generalize w1.drew = w1d at *
    refine Calm.takeL 6 (i := 0) (v := ?_) (a' := ?_) (l' := #[true, false, false, false, false, false]) (d := some 31) (by kernel_rfl) rfl (by kernel_rfl) (by kernel_rfl) (by kernel_rfl) (by kernel_rfl) (fun _ _ _ h => h) HF.out rfl ?_ rfl rfl ?_ ?_
    rotate_left
    · intro w' hF; clear hF; go_simp; try rfl
    rotate_left
    · simp only [Act.put]; exact rfl
    refine Calm.takeL 6 (i := 1) (v := ?_) (a' := ?_) (l' := #[true, true, false, false, false, false]) (d := some 32) (by kernel_rfl) rfl (by kernel_rfl) (by kernel_rfl) (by kernel_rfl) (by kernel_rfl) (fun _ _ _ h => h) HF.out rfl ?_ rfl rfl ?_ ?_
    rotate_left
    · intro w' hF; have f10 := hF.2.1.cells.cell0; have f11 := hF.2.1.cells.cell1; have f12 := hF.2.1.cells.cell2; have f13 := hF.2.1.cells.cell3; have f14 := hF.2.1.cells.cell4; simp only [Nat.zero_add] at f11 f12 f13 f14; have f20 := hF.2.2.1.cells.cell0; have f21 := hF.2.2.1.cells.cell1; have f22 := hF.2.2.1.cells.cell2; have f23 := hF.2.2.1.cells.cell3; have f24 := hF.2.2.1.cells.cell4; simp only [Nat.zero_add] at f21 f22 f23 f24; have f30 := hF.2.2.2.cells.cell0; have f31 := hF.2.2.2.cells.cell1; have f32 := hF.2.2.2.cells.cell2; have f33 := hF.2.2.2.cells.cell3; have f34 := hF.2.2.2.cells.cell4; simp only [Nat.zero_add] at f31 f32 f33 f34; clear hF; go_simp; try rfl
    rotate_left
    · simp only [Act.put]; exact rfl
    refine Calm.takeL 6 (i := 2) (v := ?_) (a' := ?_) (l' := #[true, true, true, false, false, false]) (d := some 33) (by kernel_rfl) rfl (by kernel_rfl) (by kernel_rfl) (by kernel_rfl) (by kernel_rfl) (fun _ _ _ h => h) HF.out rfl ?_ rfl rfl ?_ ?_
    rotate_left
    · intro w' hF; clear hF; go_simp; try rfl
    rotate_left
    · simp only [Act.put]; exact rfl
    refine Calm.takeL 6 (i := 3) (v := ?_) (a' := ?_) (l' := #[true, true, true, true, false, false]) (d := some 34) (by kernel_rfl) rfl (by kernel_rfl) (by kernel_rfl) (by kernel_rfl) (by kernel_rfl) (fun _ _ _ h => h) HF.out rfl ?_ rfl rfl ?_ ?_
    rotate_left
    · intro w' hF; have f10 := hF.2.1.cells.cell0; have f11 := hF.2.1.cells.cell1; have f12 := hF.2.1.cells.cell2; have f13 := hF.2.1.cells.cell3; have f14 := hF.2.1.cells.cell4; simp only [Nat.zero_add] at f11 f12 f13 f14; have f20 := hF.2.2.1.cells.cell0; have f21 := hF.2.2.1.cells.cell1; have f22 := hF.2.2.1.cells.cell2; have f23 := hF.2.2.1.cells.cell3; have f24 := hF.2.2.1.cells.cell4; simp only [Nat.zero_add] at f21 f22 f23 f24; have f30 := hF.2.2.2.cells.cell0; have f31 := hF.2.2.2.cells.cell1; have f32 := hF.2.2.2.cells.cell2; have f33 := hF.2.2.2.cells.cell3; have f34 := hF.2.2.2.cells.cell4; simp only [Nat.zero_add] at f31 f32 f33 f34; clear hF; go_simp; try rfl
    rotate_left
    · simp only [Act.put]; exact rfl
    refine Calm.takeL 6 (i := 4) (v := ?_) (a' := ?_) (l' := #[true, true, true, true, true, false]) (d := some 6) (by kernel_rfl) rfl (by kernel_rfl) (by kernel_rfl) (by kernel_rfl) (by kernel_rfl) (fun _ _ _ h => h) HF.out rfl ?_ rfl rfl ?_ ?_
    rotate_left
    · intro w' hF; clear hF; go_simp; try rfl
    rotate_left
    · simp only [Act.put]; exact rfl
    refine Calm.takeL 6 (i := 5) (v := ?_) (a' := ?_) (l' := #[true, true, true, true, true, true]) (d := some 7) (by kernel_rfl) rfl (by kernel_rfl) (by kernel_rfl) (by kernel_rfl) (by kernel_rfl) (fun _ _ _ h => h) HF.out rfl ?_ rfl rfl ?_ ?_
    rotate_left
    · intro w' hF; clear hF; go_simp; try rfl
    rotate_left
    · simp only [Act.put]; exact rfl
    refine Calm.done (by kernel_rfl) ?_
    replace HB := hide HF.out.1
    replace IX0 := hide HF.out.2.1
    replace IX1 := hide HF.out.2.2.1
    replace RX := hide HF.out.2.2.2
    clear HF
    have k0 := IX0.out.cells.cell0
    have k1 := IX0.out.cells.cell1
    have k2 := IX0.out.cells.cell2
    have k3 := IX0.out.cells.cell3
    have k4 := IX0.out.cells.cell4
    simp only [Nat.zero_add] at k1 k2 k3 k4
    have l0 := IX1.out.cells.cell0
    have l1 := IX1.out.cells.cell1
    have l2 := IX1.out.cells.cell2
    have l3 := IX1.out.cells.cell3
    have l4 := IX1.out.cells.cell4
    simp only [Nat.zero_add] at l1 l2 l3 l4
    have q0 := RX.out.cells.cell0
    have q1 := RX.out.cells.cell1
    have q2 := RX.out.cells.cell2
    have q3 := RX.out.cells.cell3
    have q4 := RX.out.cells.cell4
    simp only [Nat.zero_add] at q1 q2 q3 q4
    have f0 := RX.out.free 0
    have f1 := RX.out.free 1
    have f2 := RX.out.free 2
    have f3 := RX.out.free 3
    have f4 := RX.out.free 4
    go_wp2
    refine ret_insb rfl R ⟨0, 0, 0, 0, 0⟩ rfl (RX.out.put ⟨0, 0, 0, 0, 0⟩) rfl ⟨by rw [HRES.out]; rfl, ?_⟩
    exact below_put5 HB.out (by have := ZR.out; omega) _ _ _ _ _
set_option maxRecDepth 100000 in
set_option maxHeartbeats 16000000 in
theorem rmelt_3 (t aa ab ac bo bb bc : Int) (w : World) (hi : mayB ⟨3, t, aa, ab, ac⟩ 128 = true) (hj : mayB ⟨bo, t, t, bb, bc⟩ 128 = true) (h2 : twoB bo = false) :
    Calls Tryd.prog 25 #[.agg #[.int .i64 (⟨3, t, aa, ab, ac⟩ : Ins).op, .int .i64 (⟨3, t, aa, ab, ac⟩ : Ins).to, .int .i64 (⟨3, t, aa, ab, ac⟩ : Ins).a, .int .i64 (⟨3, t, aa, ab, ac⟩ : Ins).b, .int .i64 (⟨3, t, aa, ab, ac⟩ : Ins).c], .agg #[.int .i64 (⟨bo, t, t, bb, bc⟩ : Ins).op, .int .i64 (⟨bo, t, t, bb, bc⟩ : Ins).to, .int .i64 (⟨bo, t, t, bb, bc⟩ : Ins).a, .int .i64 (⟨bo, t, t, bb, bc⟩ : Ins).b, .int .i64 (⟨bo, t, t, bb, bc⟩ : Ins).c]] w fun e w' => e = mlE (meI ⟨3, t, aa, ab, ac⟩ ⟨bo, t, t, bb, bc⟩) ∧ Below w.heap.size w w' := by
  have HI := hide hi
  have HJ := hide hj
  rw [may_iff] at hi hj
  dsimp only at hi hj ⊢
  have hbo : bo = 1 ∨ bo = 2 ∨ bo = 5 ∨ bo = 6 ∨ bo = 7 ∨ bo = 8 := by
    unfold twoB at h2
    simp only [Bool.or_eq_false_iff, decide_eq_false_iff_not] at h2
    omega
  clear h2
  rcases hbo with rfl | rfl | rfl | rfl | rfl | rfl
  · skip
    clear hi hj
    have HRES : Hid (meI ⟨3, t, aa, ab, ac⟩ ⟨1, t, t, bb, bc⟩ = none) := hide (meI_none (a := ⟨3, t, aa, ab, ac⟩) (b := ⟨1, t, t, bb, bc⟩) (rfl))
    generalize meI ⟨3, t, aa, ab, ac⟩ ⟨1, t, t, bb, bc⟩ = G at *
    go_enter Tryd.func25, Tryd.ntmps25
    go_upto_region 1 with fail
    have b1 := below_alloc w (.cells #[.int .i64 3, .int .i64 t, .int .i64 aa, .int .i64 ab, .int .i64 ac] 24)
    have b2 := below_alloc (w.alloc (.cells #[.int .i64 3, .int .i64 t, .int .i64 aa, .int .i64 ab, .int .i64 ac] 24)) (.cells #[.int .i64 1, .int .i64 t, .int .i64 t, .int .i64 bb, .int .i64 bc] 24)
    have b3 := below_alloc ((w.alloc (.cells #[.int .i64 3, .int .i64 t, .int .i64 aa, .int .i64 ab, .int .i64 ac] 24)).alloc (.cells #[.int .i64 1, .int .i64 t, .int .i64 t, .int .i64 bb, .int .i64 bc] 24)) (.cells #[.int .i64 0, .int .i64 0, .int .i64 0, .int .i64 0, .int .i64 0] 24)
    have IX0 := (((Box5.new w 24 ⟨3, t, aa, ab, ac⟩).step b2).step b3)
    replace IX0 : Hid (Box5 (((w.alloc (.cells #[.int .i64 3, .int .i64 t, .int .i64 aa, .int .i64 ab, .int .i64 ac] 24)).alloc (.cells #[.int .i64 1, .int .i64 t, .int .i64 t, .int .i64 bb, .int .i64 bc] 24)).alloc (.cells #[.int .i64 0, .int .i64 0, .int .i64 0, .int .i64 0, .int .i64 0] 24)) (w.heap.size) 24 ⟨3, t, aa, ab, ac⟩) := hide IX0
    have IX1 := ((Box5.new (w.alloc (.cells #[.int .i64 3, .int .i64 t, .int .i64 aa, .int .i64 ab, .int .i64 ac] 24)) 24 ⟨1, t, t, bb, bc⟩).step b3)
    simp only [World.size_alloc] at IX1
    replace IX1 : Hid (Box5 (((w.alloc (.cells #[.int .i64 3, .int .i64 t, .int .i64 aa, .int .i64 ab, .int .i64 ac] 24)).alloc (.cells #[.int .i64 1, .int .i64 t, .int .i64 t, .int .i64 bb, .int .i64 bc] 24)).alloc (.cells #[.int .i64 0, .int .i64 0, .int .i64 0, .int .i64 0, .int .i64 0] 24)) (w.heap.size + 1) 24 ⟨1, t, t, bb, bc⟩) := hide IX1
    have RX := (Box5.new ((w.alloc (.cells #[.int .i64 3, .int .i64 t, .int .i64 aa, .int .i64 ab, .int .i64 ac] 24)).alloc (.cells #[.int .i64 1, .int .i64 t, .int .i64 t, .int .i64 bb, .int .i64 bc] 24)) 24 ⟨0, 0, 0, 0, 0⟩)
    simp only [World.size_alloc] at RX
    replace RX : Hid (Box5 (((w.alloc (.cells #[.int .i64 3, .int .i64 t, .int .i64 aa, .int .i64 ab, .int .i64 ac] 24)).alloc (.cells #[.int .i64 1, .int .i64 t, .int .i64 t, .int .i64 bb, .int .i64 bc] 24)).alloc (.cells #[.int .i64 0, .int .i64 0, .int .i64 0, .int .i64 0, .int .i64 0] 24)) (w.heap.size + 1 + 1) 24 ⟨0, 0, 0, 0, 0⟩) := hide RX
    have HB := hide ((b1.trans (b2.mono b1.size)).trans (b3.mono (b1.trans (b2.mono b1.size)).size))
    clear b1 b2 b3
    generalize ((w.alloc (.cells #[.int .i64 3, .int .i64 t, .int .i64 aa, .int .i64 ab, .int .i64 ac] 24)).alloc (.cells #[.int .i64 1, .int .i64 t, .int .i64 t, .int .i64 bb, .int .i64 bc] 24)).alloc (.cells #[.int .i64 0, .int .i64 0, .int .i64 0, .int .i64 0, .int .i64 0] 24) = w1 at *
    obtain ⟨R, hR⟩ : ∃ B, B = w.heap.size + 1 + 1 := ⟨_, rfl⟩
    have ZR := hide hR
    try rw [show w.heap.size + 2 = w.heap.size + 1 + 1 from rfl]
    rw [← hR] at RX ⊢
    clear hR
    obtain ⟨B1, hB1⟩ : ∃ B, B = w.heap.size + 1 := ⟨_, rfl⟩
    have ZB1 := hide hB1
    rw [← hB1] at IX1 ⊢
    clear hB1
    obtain ⟨B0, hB0⟩ : ∃ B, B = w.heap.size := ⟨_, rfl⟩
    have ZB0 := hide hB0
    rw [← hB0] at IX0 ⊢
    clear hB0
    have k0 := IX0.out.cells.cell0
    have k1 := IX0.out.cells.cell1
    have k2 := IX0.out.cells.cell2
    have k3 := IX0.out.cells.cell3
    have k4 := IX0.out.cells.cell4
    simp only [Nat.zero_add] at k1 k2 k3 k4
    have l0 := IX1.out.cells.cell0
    have l1 := IX1.out.cells.cell1
    have l2 := IX1.out.cells.cell2
    have l3 := IX1.out.cells.cell3
    have l4 := IX1.out.cells.cell4
    simp only [Nat.zero_add] at l1 l2 l3 l4
    have q0 := RX.out.cells.cell0
    have q1 := RX.out.cells.cell1
    have q2 := RX.out.cells.cell2
    have q3 := RX.out.cells.cell3
    have q4 := RX.out.cells.cell4
    simp only [Nat.zero_add] at q1 q2 q3 q4
    have f0 := RX.out.free 0
    have f1 := RX.out.free 1
    have f2 := RX.out.free 2
    have f3 := RX.out.free 3
    have f4 := RX.out.free 4
    go_upto_region 3 with fail
    clear k0 k1 k2 k3 k4 l0 l1 l2 l3 l4 q0 q1 q2 q3 q4 f0 f1 f2 f3 f4
    refine wp_calm (fun w' => Below w.heap.size w w' ∧ Box5 w' B0 24 ⟨3, t, aa, ab, ac⟩ ∧ Box5 w' B1 24 ⟨1, t, t, bb, bc⟩ ∧ Box5 w' R 24 ⟨0, 0, 0, 0, 0⟩) (fun _ => true) 6 #[false, false, false, false, false, false] (by kernel_rfl) rfl rfl ?_
    have HF := hide (And.intro (HB.out.drew) (And.intro (IX0.out.drew) (And.intro (IX1.out.drew) (RX.out.drew))))
    generalize w1.drew = w1d at *
    refine Calm.takeL 6 (i := 0) (v := ?_) (a' := ?_) (l' := #[true, false, false, false, false, false]) (d := some 31) (by kernel_rfl) rfl (by kernel_rfl) (by kernel_rfl) (by kernel_rfl) (by kernel_rfl) (fun _ _ _ h => h) HF.out rfl ?_ rfl rfl ?_ ?_
    rotate_left
    · intro w' hF; clear hF; go_simp; try rfl
    rotate_left
    · simp only [Act.put]; exact rfl
    refine Calm.takeL 6 (i := 1) (v := ?_) (a' := ?_) (l' := #[true, true, false, false, false, false]) (d := some 32) (by kernel_rfl) rfl (by kernel_rfl) (by kernel_rfl) (by kernel_rfl) (by kernel_rfl) (fun _ _ _ h => h) HF.out rfl ?_ rfl rfl ?_ ?_
    rotate_left
    · intro w' hF; have f10 := hF.2.1.cells.cell0; have f11 := hF.2.1.cells.cell1; have f12 := hF.2.1.cells.cell2; have f13 := hF.2.1.cells.cell3; have f14 := hF.2.1.cells.cell4; simp only [Nat.zero_add] at f11 f12 f13 f14; have f20 := hF.2.2.1.cells.cell0; have f21 := hF.2.2.1.cells.cell1; have f22 := hF.2.2.1.cells.cell2; have f23 := hF.2.2.1.cells.cell3; have f24 := hF.2.2.1.cells.cell4; simp only [Nat.zero_add] at f21 f22 f23 f24; have f30 := hF.2.2.2.cells.cell0; have f31 := hF.2.2.2.cells.cell1; have f32 := hF.2.2.2.cells.cell2; have f33 := hF.2.2.2.cells.cell3; have f34 := hF.2.2.2.cells.cell4; simp only [Nat.zero_add] at f31 f32 f33 f34; clear hF; go_simp; try rfl
    rotate_left
    · simp only [Act.put]; exact rfl
    refine Calm.takeL 6 (i := 2) (v := ?_) (a' := ?_) (l' := #[true, true, true, false, false, false]) (d := some 33) (by kernel_rfl) rfl (by kernel_rfl) (by kernel_rfl) (by kernel_rfl) (by kernel_rfl) (fun _ _ _ h => h) HF.out rfl ?_ rfl rfl ?_ ?_
    rotate_left
    · intro w' hF; clear hF; go_simp; try rfl
    rotate_left
    · simp only [Act.put]; exact rfl
    refine Calm.takeL 6 (i := 3) (v := ?_) (a' := ?_) (l' := #[true, true, true, true, false, false]) (d := some 34) (by kernel_rfl) rfl (by kernel_rfl) (by kernel_rfl) (by kernel_rfl) (by kernel_rfl) (fun _ _ _ h => h) HF.out rfl ?_ rfl rfl ?_ ?_
    rotate_left
    · intro w' hF; have f10 := hF.2.1.cells.cell0; have f11 := hF.2.1.cells.cell1; have f12 := hF.2.1.cells.cell2; have f13 := hF.2.1.cells.cell3; have f14 := hF.2.1.cells.cell4; simp only [Nat.zero_add] at f11 f12 f13 f14; have f20 := hF.2.2.1.cells.cell0; have f21 := hF.2.2.1.cells.cell1; have f22 := hF.2.2.1.cells.cell2; have f23 := hF.2.2.1.cells.cell3; have f24 := hF.2.2.1.cells.cell4; simp only [Nat.zero_add] at f21 f22 f23 f24; have f30 := hF.2.2.2.cells.cell0; have f31 := hF.2.2.2.cells.cell1; have f32 := hF.2.2.2.cells.cell2; have f33 := hF.2.2.2.cells.cell3; have f34 := hF.2.2.2.cells.cell4; simp only [Nat.zero_add] at f31 f32 f33 f34; clear hF; go_simp; try rfl
    rotate_left
    · simp only [Act.put]; exact rfl
    refine Calm.takeL 6 (i := 4) (v := ?_) (a' := ?_) (l' := #[true, true, true, true, true, false]) (d := some 6) (by kernel_rfl) rfl (by kernel_rfl) (by kernel_rfl) (by kernel_rfl) (by kernel_rfl) (fun _ _ _ h => h) HF.out rfl ?_ rfl rfl ?_ ?_
    rotate_left
    · intro w' hF; clear hF; go_simp; try rfl
    rotate_left
    · simp only [Act.put]; exact rfl
    refine Calm.takeL 6 (i := 5) (v := ?_) (a' := ?_) (l' := #[true, true, true, true, true, true]) (d := some 7) (by kernel_rfl) rfl (by kernel_rfl) (by kernel_rfl) (by kernel_rfl) (by kernel_rfl) (fun _ _ _ h => h) HF.out rfl ?_ rfl rfl ?_ ?_
    rotate_left
    · intro w' hF; clear hF; go_simp; try rfl
    rotate_left
    · simp only [Act.put]; exact rfl
    refine Calm.done (by kernel_rfl) ?_
    replace HB := hide HF.out.1
    replace IX0 := hide HF.out.2.1
    replace IX1 := hide HF.out.2.2.1
    replace RX := hide HF.out.2.2.2
    clear HF
    have k0 := IX0.out.cells.cell0
    have k1 := IX0.out.cells.cell1
    have k2 := IX0.out.cells.cell2
    have k3 := IX0.out.cells.cell3
    have k4 := IX0.out.cells.cell4
    simp only [Nat.zero_add] at k1 k2 k3 k4
    have l0 := IX1.out.cells.cell0
    have l1 := IX1.out.cells.cell1
    have l2 := IX1.out.cells.cell2
    have l3 := IX1.out.cells.cell3
    have l4 := IX1.out.cells.cell4
    simp only [Nat.zero_add] at l1 l2 l3 l4
    have q0 := RX.out.cells.cell0
    have q1 := RX.out.cells.cell1
    have q2 := RX.out.cells.cell2
    have q3 := RX.out.cells.cell3
    have q4 := RX.out.cells.cell4
    simp only [Nat.zero_add] at q1 q2 q3 q4
    have f0 := RX.out.free 0
    have f1 := RX.out.free 1
    have f2 := RX.out.free 2
    have f3 := RX.out.free 3
    have f4 := RX.out.free 4
    go_wp2
    refine ret_insb rfl R ⟨0, 0, 0, 0, 0⟩ rfl (RX.out.put ⟨0, 0, 0, 0, 0⟩) rfl ⟨by rw [HRES.out]; rfl, ?_⟩
    exact below_put5 HB.out (by have := ZR.out; omega) _ _ _ _ _
  · skip
    clear hi hj
    have HRES : Hid (meI ⟨3, t, aa, ab, ac⟩ ⟨2, t, t, bb, bc⟩ = none) := hide (meI_none (a := ⟨3, t, aa, ab, ac⟩) (b := ⟨2, t, t, bb, bc⟩) (rfl))
    generalize meI ⟨3, t, aa, ab, ac⟩ ⟨2, t, t, bb, bc⟩ = G at *
    go_enter Tryd.func25, Tryd.ntmps25
    go_upto_region 1 with fail
    have b1 := below_alloc w (.cells #[.int .i64 3, .int .i64 t, .int .i64 aa, .int .i64 ab, .int .i64 ac] 24)
    have b2 := below_alloc (w.alloc (.cells #[.int .i64 3, .int .i64 t, .int .i64 aa, .int .i64 ab, .int .i64 ac] 24)) (.cells #[.int .i64 2, .int .i64 t, .int .i64 t, .int .i64 bb, .int .i64 bc] 24)
    have b3 := below_alloc ((w.alloc (.cells #[.int .i64 3, .int .i64 t, .int .i64 aa, .int .i64 ab, .int .i64 ac] 24)).alloc (.cells #[.int .i64 2, .int .i64 t, .int .i64 t, .int .i64 bb, .int .i64 bc] 24)) (.cells #[.int .i64 0, .int .i64 0, .int .i64 0, .int .i64 0, .int .i64 0] 24)
    have IX0 := (((Box5.new w 24 ⟨3, t, aa, ab, ac⟩).step b2).step b3)
    replace IX0 : Hid (Box5 (((w.alloc (.cells #[.int .i64 3, .int .i64 t, .int .i64 aa, .int .i64 ab, .int .i64 ac] 24)).alloc (.cells #[.int .i64 2, .int .i64 t, .int .i64 t, .int .i64 bb, .int .i64 bc] 24)).alloc (.cells #[.int .i64 0, .int .i64 0, .int .i64 0, .int .i64 0, .int .i64 0] 24)) (w.heap.size) 24 ⟨3, t, aa, ab, ac⟩) := hide IX0
    have IX1 := ((Box5.new (w.alloc (.cells #[.int .i64 3, .int .i64 t, .int .i64 aa, .int .i64 ab, .int .i64 ac] 24)) 24 ⟨2, t, t, bb, bc⟩).step b3)
    simp only [World.size_alloc] at IX1
    replace IX1 : Hid (Box5 (((w.alloc (.cells #[.int .i64 3, .int .i64 t, .int .i64 aa, .int .i64 ab, .int .i64 ac] 24)).alloc (.cells #[.int .i64 2, .int .i64 t, .int .i64 t, .int .i64 bb, .int .i64 bc] 24)).alloc (.cells #[.int .i64 0, .int .i64 0, .int .i64 0, .int .i64 0, .int .i64 0] 24)) (w.heap.size + 1) 24 ⟨2, t, t, bb, bc⟩) := hide IX1
    have RX := (Box5.new ((w.alloc (.cells #[.int .i64 3, .int .i64 t, .int .i64 aa, .int .i64 ab, .int .i64 ac] 24)).alloc (.cells #[.int .i64 2, .int .i64 t, .int .i64 t, .int .i64 bb, .int .i64 bc] 24)) 24 ⟨0, 0, 0, 0, 0⟩)
    simp only [World.size_alloc] at RX
    replace RX : Hid (Box5 (((w.alloc (.cells #[.int .i64 3, .int .i64 t, .int .i64 aa, .int .i64 ab, .int .i64 ac] 24)).alloc (.cells #[.int .i64 2, .int .i64 t, .int .i64 t, .int .i64 bb, .int .i64 bc] 24)).alloc (.cells #[.int .i64 0, .int .i64 0, .int .i64 0, .int .i64 0, .int .i64 0] 24)) (w.heap.size + 1 + 1) 24 ⟨0, 0, 0, 0, 0⟩) := hide RX
    have HB := hide ((b1.trans (b2.mono b1.size)).trans (b3.mono (b1.trans (b2.mono b1.size)).size))
    clear b1 b2 b3
    generalize ((w.alloc (.cells #[.int .i64 3, .int .i64 t, .int .i64 aa, .int .i64 ab, .int .i64 ac] 24)).alloc (.cells #[.int .i64 2, .int .i64 t, .int .i64 t, .int .i64 bb, .int .i64 bc] 24)).alloc (.cells #[.int .i64 0, .int .i64 0, .int .i64 0, .int .i64 0, .int .i64 0] 24) = w1 at *
    obtain ⟨R, hR⟩ : ∃ B, B = w.heap.size + 1 + 1 := ⟨_, rfl⟩
    have ZR := hide hR
    try rw [show w.heap.size + 2 = w.heap.size + 1 + 1 from rfl]
    rw [← hR] at RX ⊢
    clear hR
    obtain ⟨B1, hB1⟩ : ∃ B, B = w.heap.size + 1 := ⟨_, rfl⟩
    have ZB1 := hide hB1
    rw [← hB1] at IX1 ⊢
    clear hB1
    obtain ⟨B0, hB0⟩ : ∃ B, B = w.heap.size := ⟨_, rfl⟩
    have ZB0 := hide hB0
    rw [← hB0] at IX0 ⊢
    clear hB0
    have k0 := IX0.out.cells.cell0
    have k1 := IX0.out.cells.cell1
    have k2 := IX0.out.cells.cell2
    have k3 := IX0.out.cells.cell3
    have k4 := IX0.out.cells.cell4
    simp only [Nat.zero_add] at k1 k2 k3 k4
    have l0 := IX1.out.cells.cell0
    have l1 := IX1.out.cells.cell1
    have l2 := IX1.out.cells.cell2
    have l3 := IX1.out.cells.cell3
    have l4 := IX1.out.cells.cell4
    simp only [Nat.zero_add] at l1 l2 l3 l4
    have q0 := RX.out.cells.cell0
    have q1 := RX.out.cells.cell1
    have q2 := RX.out.cells.cell2
    have q3 := RX.out.cells.cell3
    have q4 := RX.out.cells.cell4
    simp only [Nat.zero_add] at q1 q2 q3 q4
    have f0 := RX.out.free 0
    have f1 := RX.out.free 1
    have f2 := RX.out.free 2
    have f3 := RX.out.free 3
    have f4 := RX.out.free 4
    go_upto_region 3 with fail
    clear k0 k1 k2 k3 k4 l0 l1 l2 l3 l4 q0 q1 q2 q3 q4 f0 f1 f2 f3 f4
    refine wp_calm (fun w' => Below w.heap.size w w' ∧ Box5 w' B0 24 ⟨3, t, aa, ab, ac⟩ ∧ Box5 w' B1 24 ⟨2, t, t, bb, bc⟩ ∧ Box5 w' R 24 ⟨0, 0, 0, 0, 0⟩) (fun _ => true) 6 #[false, false, false, false, false, false] (by kernel_rfl) rfl rfl ?_
    have HF := hide (And.intro (HB.out.drew) (And.intro (IX0.out.drew) (And.intro (IX1.out.drew) (RX.out.drew))))
    generalize w1.drew = w1d at *
    refine Calm.takeL 6 (i := 0) (v := ?_) (a' := ?_) (l' := #[true, false, false, false, false, false]) (d := some 31) (by kernel_rfl) rfl (by kernel_rfl) (by kernel_rfl) (by kernel_rfl) (by kernel_rfl) (fun _ _ _ h => h) HF.out rfl ?_ rfl rfl ?_ ?_
    rotate_left
    · intro w' hF; clear hF; go_simp; try rfl
    rotate_left
    · simp only [Act.put]; exact rfl
    refine Calm.takeL 6 (i := 1) (v := ?_) (a' := ?_) (l' := #[true, true, false, false, false, false]) (d := some 32) (by kernel_rfl) rfl (by kernel_rfl) (by kernel_rfl) (by kernel_rfl) (by kernel_rfl) (fun _ _ _ h => h) HF.out rfl ?_ rfl rfl ?_ ?_
    rotate_left
    · intro w' hF; have f10 := hF.2.1.cells.cell0; have f11 := hF.2.1.cells.cell1; have f12 := hF.2.1.cells.cell2; have f13 := hF.2.1.cells.cell3; have f14 := hF.2.1.cells.cell4; simp only [Nat.zero_add] at f11 f12 f13 f14; have f20 := hF.2.2.1.cells.cell0; have f21 := hF.2.2.1.cells.cell1; have f22 := hF.2.2.1.cells.cell2; have f23 := hF.2.2.1.cells.cell3; have f24 := hF.2.2.1.cells.cell4; simp only [Nat.zero_add] at f21 f22 f23 f24; have f30 := hF.2.2.2.cells.cell0; have f31 := hF.2.2.2.cells.cell1; have f32 := hF.2.2.2.cells.cell2; have f33 := hF.2.2.2.cells.cell3; have f34 := hF.2.2.2.cells.cell4; simp only [Nat.zero_add] at f31 f32 f33 f34; clear hF; go_simp; try rfl
    rotate_left
    · simp only [Act.put]; exact rfl
    refine Calm.takeL 6 (i := 2) (v := ?_) (a' := ?_) (l' := #[true, true, true, false, false, false]) (d := some 33) (by kernel_rfl) rfl (by kernel_rfl) (by kernel_rfl) (by kernel_rfl) (by kernel_rfl) (fun _ _ _ h => h) HF.out rfl ?_ rfl rfl ?_ ?_
    rotate_left
    · intro w' hF; clear hF; go_simp; try rfl
    rotate_left
    · simp only [Act.put]; exact rfl
    refine Calm.takeL 6 (i := 3) (v := ?_) (a' := ?_) (l' := #[true, true, true, true, false, false]) (d := some 34) (by kernel_rfl) rfl (by kernel_rfl) (by kernel_rfl) (by kernel_rfl) (by kernel_rfl) (fun _ _ _ h => h) HF.out rfl ?_ rfl rfl ?_ ?_
    rotate_left
    · intro w' hF; have f10 := hF.2.1.cells.cell0; have f11 := hF.2.1.cells.cell1; have f12 := hF.2.1.cells.cell2; have f13 := hF.2.1.cells.cell3; have f14 := hF.2.1.cells.cell4; simp only [Nat.zero_add] at f11 f12 f13 f14; have f20 := hF.2.2.1.cells.cell0; have f21 := hF.2.2.1.cells.cell1; have f22 := hF.2.2.1.cells.cell2; have f23 := hF.2.2.1.cells.cell3; have f24 := hF.2.2.1.cells.cell4; simp only [Nat.zero_add] at f21 f22 f23 f24; have f30 := hF.2.2.2.cells.cell0; have f31 := hF.2.2.2.cells.cell1; have f32 := hF.2.2.2.cells.cell2; have f33 := hF.2.2.2.cells.cell3; have f34 := hF.2.2.2.cells.cell4; simp only [Nat.zero_add] at f31 f32 f33 f34; clear hF; go_simp; try rfl
    rotate_left
    · simp only [Act.put]; exact rfl
    refine Calm.takeL 6 (i := 4) (v := ?_) (a' := ?_) (l' := #[true, true, true, true, true, false]) (d := some 6) (by kernel_rfl) rfl (by kernel_rfl) (by kernel_rfl) (by kernel_rfl) (by kernel_rfl) (fun _ _ _ h => h) HF.out rfl ?_ rfl rfl ?_ ?_
    rotate_left
    · intro w' hF; clear hF; go_simp; try rfl
    rotate_left
    · simp only [Act.put]; exact rfl
    refine Calm.takeL 6 (i := 5) (v := ?_) (a' := ?_) (l' := #[true, true, true, true, true, true]) (d := some 7) (by kernel_rfl) rfl (by kernel_rfl) (by kernel_rfl) (by kernel_rfl) (by kernel_rfl) (fun _ _ _ h => h) HF.out rfl ?_ rfl rfl ?_ ?_
    rotate_left
    · intro w' hF; clear hF; go_simp; try rfl
    rotate_left
    · simp only [Act.put]; exact rfl
    refine Calm.done (by kernel_rfl) ?_
    replace HB := hide HF.out.1
    replace IX0 := hide HF.out.2.1
    replace IX1 := hide HF.out.2.2.1
    replace RX := hide HF.out.2.2.2
    clear HF
    have k0 := IX0.out.cells.cell0
    have k1 := IX0.out.cells.cell1
    have k2 := IX0.out.cells.cell2
    have k3 := IX0.out.cells.cell3
    have k4 := IX0.out.cells.cell4
    simp only [Nat.zero_add] at k1 k2 k3 k4
    have l0 := IX1.out.cells.cell0
    have l1 := IX1.out.cells.cell1
    have l2 := IX1.out.cells.cell2
    have l3 := IX1.out.cells.cell3
    have l4 := IX1.out.cells.cell4
    simp only [Nat.zero_add] at l1 l2 l3 l4
    have q0 := RX.out.cells.cell0
    have q1 := RX.out.cells.cell1
    have q2 := RX.out.cells.cell2
    have q3 := RX.out.cells.cell3
    have q4 := RX.out.cells.cell4
    simp only [Nat.zero_add] at q1 q2 q3 q4
    have f0 := RX.out.free 0
    have f1 := RX.out.free 1
    have f2 := RX.out.free 2
    have f3 := RX.out.free 3
    have f4 := RX.out.free 4
    go_wp2
    refine ret_insb rfl R ⟨0, 0, 0, 0, 0⟩ rfl (RX.out.put ⟨0, 0, 0, 0, 0⟩) rfl ⟨by rw [HRES.out]; rfl, ?_⟩
    exact below_put5 HB.out (by have := ZR.out; omega) _ _ _ _ _
  · skip
    obtain ⟨b0, b1, b2⟩ : -512 ≤ bc ∧ bc ≤ 512 ∧ bc ≠ 0 := by omega
    clear hi hj
    have HRES : Hid (meI ⟨3, t, aa, ab, ac⟩ ⟨5, t, t, bb, bc⟩ = none) := hide (meI_none (a := ⟨3, t, aa, ab, ac⟩) (b := ⟨5, t, t, bb, bc⟩) (rfl))
    generalize meI ⟨3, t, aa, ab, ac⟩ ⟨5, t, t, bb, bc⟩ = G at *
    go_enter Tryd.func25, Tryd.ntmps25
    go_upto_region 1 with fail
    have b1 := below_alloc w (.cells #[.int .i64 3, .int .i64 t, .int .i64 aa, .int .i64 ab, .int .i64 ac] 24)
    have b2 := below_alloc (w.alloc (.cells #[.int .i64 3, .int .i64 t, .int .i64 aa, .int .i64 ab, .int .i64 ac] 24)) (.cells #[.int .i64 5, .int .i64 t, .int .i64 t, .int .i64 bb, .int .i64 bc] 24)
    have b3 := below_alloc ((w.alloc (.cells #[.int .i64 3, .int .i64 t, .int .i64 aa, .int .i64 ab, .int .i64 ac] 24)).alloc (.cells #[.int .i64 5, .int .i64 t, .int .i64 t, .int .i64 bb, .int .i64 bc] 24)) (.cells #[.int .i64 0, .int .i64 0, .int .i64 0, .int .i64 0, .int .i64 0] 24)
    have IX0 := (((Box5.new w 24 ⟨3, t, aa, ab, ac⟩).step b2).step b3)
    replace IX0 : Hid (Box5 (((w.alloc (.cells #[.int .i64 3, .int .i64 t, .int .i64 aa, .int .i64 ab, .int .i64 ac] 24)).alloc (.cells #[.int .i64 5, .int .i64 t, .int .i64 t, .int .i64 bb, .int .i64 bc] 24)).alloc (.cells #[.int .i64 0, .int .i64 0, .int .i64 0, .int .i64 0, .int .i64 0] 24)) (w.heap.size) 24 ⟨3, t, aa, ab, ac⟩) := hide IX0
    have IX1 := ((Box5.new (w.alloc (.cells #[.int .i64 3, .int .i64 t, .int .i64 aa, .int .i64 ab, .int .i64 ac] 24)) 24 ⟨5, t, t, bb, bc⟩).step b3)
    simp only [World.size_alloc] at IX1
    replace IX1 : Hid (Box5 (((w.alloc (.cells #[.int .i64 3, .int .i64 t, .int .i64 aa, .int .i64 ab, .int .i64 ac] 24)).alloc (.cells #[.int .i64 5, .int .i64 t, .int .i64 t, .int .i64 bb, .int .i64 bc] 24)).alloc (.cells #[.int .i64 0, .int .i64 0, .int .i64 0, .int .i64 0, .int .i64 0] 24)) (w.heap.size + 1) 24 ⟨5, t, t, bb, bc⟩) := hide IX1
    have RX := (Box5.new ((w.alloc (.cells #[.int .i64 3, .int .i64 t, .int .i64 aa, .int .i64 ab, .int .i64 ac] 24)).alloc (.cells #[.int .i64 5, .int .i64 t, .int .i64 t, .int .i64 bb, .int .i64 bc] 24)) 24 ⟨0, 0, 0, 0, 0⟩)
    simp only [World.size_alloc] at RX
    replace RX : Hid (Box5 (((w.alloc (.cells #[.int .i64 3, .int .i64 t, .int .i64 aa, .int .i64 ab, .int .i64 ac] 24)).alloc (.cells #[.int .i64 5, .int .i64 t, .int .i64 t, .int .i64 bb, .int .i64 bc] 24)).alloc (.cells #[.int .i64 0, .int .i64 0, .int .i64 0, .int .i64 0, .int .i64 0] 24)) (w.heap.size + 1 + 1) 24 ⟨0, 0, 0, 0, 0⟩) := hide RX
    have HB := hide ((b1.trans (b2.mono b1.size)).trans (b3.mono (b1.trans (b2.mono b1.size)).size))
    clear b1 b2 b3
    generalize ((w.alloc (.cells #[.int .i64 3, .int .i64 t, .int .i64 aa, .int .i64 ab, .int .i64 ac] 24)).alloc (.cells #[.int .i64 5, .int .i64 t, .int .i64 t, .int .i64 bb, .int .i64 bc] 24)).alloc (.cells #[.int .i64 0, .int .i64 0, .int .i64 0, .int .i64 0, .int .i64 0] 24) = w1 at *
    obtain ⟨R, hR⟩ : ∃ B, B = w.heap.size + 1 + 1 := ⟨_, rfl⟩
    have ZR := hide hR
    try rw [show w.heap.size + 2 = w.heap.size + 1 + 1 from rfl]
    rw [← hR] at RX ⊢
    clear hR
    obtain ⟨B1, hB1⟩ : ∃ B, B = w.heap.size + 1 := ⟨_, rfl⟩
    have ZB1 := hide hB1
    rw [← hB1] at IX1 ⊢
    clear hB1
    obtain ⟨B0, hB0⟩ : ∃ B, B = w.heap.size := ⟨_, rfl⟩
    have ZB0 := hide hB0
    rw [← hB0] at IX0 ⊢
    clear hB0
    have k0 := IX0.out.cells.cell0
    have k1 := IX0.out.cells.cell1
    have k2 := IX0.out.cells.cell2
    have k3 := IX0.out.cells.cell3
    have k4 := IX0.out.cells.cell4
    simp only [Nat.zero_add] at k1 k2 k3 k4
    have l0 := IX1.out.cells.cell0
    have l1 := IX1.out.cells.cell1
    have l2 := IX1.out.cells.cell2
    have l3 := IX1.out.cells.cell3
    have l4 := IX1.out.cells.cell4
    simp only [Nat.zero_add] at l1 l2 l3 l4
    have q0 := RX.out.cells.cell0
    have q1 := RX.out.cells.cell1
    have q2 := RX.out.cells.cell2
    have q3 := RX.out.cells.cell3
    have q4 := RX.out.cells.cell4
    simp only [Nat.zero_add] at q1 q2 q3 q4
    have f0 := RX.out.free 0
    have f1 := RX.out.free 1
    have f2 := RX.out.free 2
    have f3 := RX.out.free 3
    have f4 := RX.out.free 4
    go_upto_region 3 with fail
    clear k0 k1 k2 k3 k4 l0 l1 l2 l3 l4 q0 q1 q2 q3 q4 f0 f1 f2 f3 f4
    refine wp_calm (fun w' => Below w.heap.size w w' ∧ Box5 w' B0 24 ⟨3, t, aa, ab, ac⟩ ∧ Box5 w' B1 24 ⟨5, t, t, bb, bc⟩ ∧ Box5 w' R 24 ⟨0, 0, 0, 0, 0⟩) (fun _ => true) 6 #[false, false, false, false, false, false] (by kernel_rfl) rfl rfl ?_
    have HF := hide (And.intro (HB.out.drew) (And.intro (IX0.out.drew) (And.intro (IX1.out.drew) (RX.out.drew))))
    generalize w1.drew = w1d at *
    refine Calm.takeL 6 (i := 0) (v := ?_) (a' := ?_) (l' := #[true, false, false, false, false, false]) (d := some 31) (by kernel_rfl) rfl (by kernel_rfl) (by kernel_rfl) (by kernel_rfl) (by kernel_rfl) (fun _ _ _ h => h) HF.out rfl ?_ rfl rfl ?_ ?_
    rotate_left
    · intro w' hF; clear hF; go_simp; try rfl
    rotate_left
    · simp only [Act.put]; exact rfl
    refine Calm.takeL 6 (i := 1) (v := ?_) (a' := ?_) (l' := #[true, true, false, false, false, false]) (d := some 32) (by kernel_rfl) rfl (by kernel_rfl) (by kernel_rfl) (by kernel_rfl) (by kernel_rfl) (fun _ _ _ h => h) HF.out rfl ?_ rfl rfl ?_ ?_
    rotate_left
    · intro w' hF; have f10 := hF.2.1.cells.cell0; have f11 := hF.2.1.cells.cell1; have f12 := hF.2.1.cells.cell2; have f13 := hF.2.1.cells.cell3; have f14 := hF.2.1.cells.cell4; simp only [Nat.zero_add] at f11 f12 f13 f14; have f20 := hF.2.2.1.cells.cell0; have f21 := hF.2.2.1.cells.cell1; have f22 := hF.2.2.1.cells.cell2; have f23 := hF.2.2.1.cells.cell3; have f24 := hF.2.2.1.cells.cell4; simp only [Nat.zero_add] at f21 f22 f23 f24; have f30 := hF.2.2.2.cells.cell0; have f31 := hF.2.2.2.cells.cell1; have f32 := hF.2.2.2.cells.cell2; have f33 := hF.2.2.2.cells.cell3; have f34 := hF.2.2.2.cells.cell4; simp only [Nat.zero_add] at f31 f32 f33 f34; clear hF; go_simp; try rfl
    rotate_left
    · simp only [Act.put]; exact rfl
    refine Calm.takeL 6 (i := 2) (v := ?_) (a' := ?_) (l' := #[true, true, true, false, false, false]) (d := some 33) (by kernel_rfl) rfl (by kernel_rfl) (by kernel_rfl) (by kernel_rfl) (by kernel_rfl) (fun _ _ _ h => h) HF.out rfl ?_ rfl rfl ?_ ?_
    rotate_left
    · intro w' hF; clear hF; go_simp; try rfl
    rotate_left
    · simp only [Act.put]; exact rfl
    refine Calm.takeL 6 (i := 3) (v := ?_) (a' := ?_) (l' := #[true, true, true, true, false, false]) (d := some 34) (by kernel_rfl) rfl (by kernel_rfl) (by kernel_rfl) (by kernel_rfl) (by kernel_rfl) (fun _ _ _ h => h) HF.out rfl ?_ rfl rfl ?_ ?_
    rotate_left
    · intro w' hF; have f10 := hF.2.1.cells.cell0; have f11 := hF.2.1.cells.cell1; have f12 := hF.2.1.cells.cell2; have f13 := hF.2.1.cells.cell3; have f14 := hF.2.1.cells.cell4; simp only [Nat.zero_add] at f11 f12 f13 f14; have f20 := hF.2.2.1.cells.cell0; have f21 := hF.2.2.1.cells.cell1; have f22 := hF.2.2.1.cells.cell2; have f23 := hF.2.2.1.cells.cell3; have f24 := hF.2.2.1.cells.cell4; simp only [Nat.zero_add] at f21 f22 f23 f24; have f30 := hF.2.2.2.cells.cell0; have f31 := hF.2.2.2.cells.cell1; have f32 := hF.2.2.2.cells.cell2; have f33 := hF.2.2.2.cells.cell3; have f34 := hF.2.2.2.cells.cell4; simp only [Nat.zero_add] at f31 f32 f33 f34; clear hF; go_simp; try rfl
    rotate_left
    · simp only [Act.put]; exact rfl
    refine Calm.takeL 6 (i := 4) (v := ?_) (a' := ?_) (l' := #[true, true, true, true, true, false]) (d := some 6) (by kernel_rfl) rfl (by kernel_rfl) (by kernel_rfl) (by kernel_rfl) (by kernel_rfl) (fun _ _ _ h => h) HF.out rfl ?_ rfl rfl ?_ ?_
    rotate_left
    · intro w' hF; clear hF; go_simp; try rfl
    rotate_left
    · simp only [Act.put]; exact rfl
    refine Calm.takeL 6 (i := 5) (v := ?_) (a' := ?_) (l' := #[true, true, true, true, true, true]) (d := some 7) (by kernel_rfl) rfl (by kernel_rfl) (by kernel_rfl) (by kernel_rfl) (by kernel_rfl) (fun _ _ _ h => h) HF.out rfl ?_ rfl rfl ?_ ?_
    rotate_left
    · intro w' hF; clear hF; go_simp; try rfl
    rotate_left
    · simp only [Act.put]; exact rfl
    refine Calm.done (by kernel_rfl) ?_
    replace HB := hide HF.out.1
    replace IX0 := hide HF.out.2.1
    replace IX1 := hide HF.out.2.2.1
    replace RX := hide HF.out.2.2.2
    clear HF
    have k0 := IX0.out.cells.cell0
    have k1 := IX0.out.cells.cell1
    have k2 := IX0.out.cells.cell2
    have k3 := IX0.out.cells.cell3
    have k4 := IX0.out.cells.cell4
    simp only [Nat.zero_add] at k1 k2 k3 k4
    have l0 := IX1.out.cells.cell0
    have l1 := IX1.out.cells.cell1
    have l2 := IX1.out.cells.cell2
    have l3 := IX1.out.cells.cell3
    have l4 := IX1.out.cells.cell4
    simp only [Nat.zero_add] at l1 l2 l3 l4
    have q0 := RX.out.cells.cell0
    have q1 := RX.out.cells.cell1
    have q2 := RX.out.cells.cell2
    have q3 := RX.out.cells.cell3
    have q4 := RX.out.cells.cell4
    simp only [Nat.zero_add] at q1 q2 q3 q4
    have f0 := RX.out.free 0
    have f1 := RX.out.free 1
    have f2 := RX.out.free 2
    have f3 := RX.out.free 3
    have f4 := RX.out.free 4
    go_wp2
    refine ret_insb rfl R ⟨0, 0, 0, 0, 0⟩ rfl (RX.out.put ⟨0, 0, 0, 0, 0⟩) rfl ⟨by rw [HRES.out]; rfl, ?_⟩
    exact below_put5 HB.out (by have := ZR.out; omega) _ _ _ _ _
  · skip
    obtain ⟨b0, b1, b2⟩ : -512 ≤ bc ∧ bc ≤ 512 ∧ bc ≠ 0 := by omega
    clear hi hj
    have HRES : Hid (meI ⟨3, t, aa, ab, ac⟩ ⟨6, t, t, bb, bc⟩ = none) := hide (meI_none (a := ⟨3, t, aa, ab, ac⟩) (b := ⟨6, t, t, bb, bc⟩) (rfl))
    generalize meI ⟨3, t, aa, ab, ac⟩ ⟨6, t, t, bb, bc⟩ = G at *
    go_enter Tryd.func25, Tryd.ntmps25
    go_upto_region 1 with fail
    have b1 := below_alloc w (.cells #[.int .i64 3, .int .i64 t, .int .i64 aa, .int .i64 ab, .int .i64 ac] 24)
    have b2 := below_alloc (w.alloc (.cells #[.int .i64 3, .int .i64 t, .int .i64 aa, .int .i64 ab, .int .i64 ac] 24)) (.cells #[.int .i64 6, .int .i64 t, .int .i64 t, .int .i64 bb, .int .i64 bc] 24)
    have b3 := below_alloc ((w.alloc (.cells #[.int .i64 3, .int .i64 t, .int .i64 aa, .int .i64 ab, .int .i64 ac] 24)).alloc (.cells #[.int .i64 6, .int .i64 t, .int .i64 t, .int .i64 bb, .int .i64 bc] 24)) (.cells #[.int .i64 0, .int .i64 0, .int .i64 0, .int .i64 0, .int .i64 0] 24)
    have IX0 := (((Box5.new w 24 ⟨3, t, aa, ab, ac⟩).step b2).step b3)
    replace IX0 : Hid (Box5 (((w.alloc (.cells #[.int .i64 3, .int .i64 t, .int .i64 aa, .int .i64 ab, .int .i64 ac] 24)).alloc (.cells #[.int .i64 6, .int .i64 t, .int .i64 t, .int .i64 bb, .int .i64 bc] 24)).alloc (.cells #[.int .i64 0, .int .i64 0, .int .i64 0, .int .i64 0, .int .i64 0] 24)) (w.heap.size) 24 ⟨3, t, aa, ab, ac⟩) := hide IX0
    have IX1 := ((Box5.new (w.alloc (.cells #[.int .i64 3, .int .i64 t, .int .i64 aa, .int .i64 ab, .int .i64 ac] 24)) 24 ⟨6, t, t, bb, bc⟩).step b3)
    simp only [World.size_alloc] at IX1
    replace IX1 : Hid (Box5 (((w.alloc (.cells #[.int .i64 3, .int .i64 t, .int .i64 aa, .int .i64 ab, .int .i64 ac] 24)).alloc (.cells #[.int .i64 6, .int .i64 t, .int .i64 t, .int .i64 bb, .int .i64 bc] 24)).alloc (.cells #[.int .i64 0, .int .i64 0, .int .i64 0, .int .i64 0, .int .i64 0] 24)) (w.heap.size + 1) 24 ⟨6, t, t, bb, bc⟩) := hide IX1
    have RX := (Box5.new ((w.alloc (.cells #[.int .i64 3, .int .i64 t, .int .i64 aa, .int .i64 ab, .int .i64 ac] 24)).alloc (.cells #[.int .i64 6, .int .i64 t, .int .i64 t, .int .i64 bb, .int .i64 bc] 24)) 24 ⟨0, 0, 0, 0, 0⟩)
    simp only [World.size_alloc] at RX
    replace RX : Hid (Box5 (((w.alloc (.cells #[.int .i64 3, .int .i64 t, .int .i64 aa, .int .i64 ab, .int .i64 ac] 24)).alloc (.cells #[.int .i64 6, .int .i64 t, .int .i64 t, .int .i64 bb, .int .i64 bc] 24)).alloc (.cells #[.int .i64 0, .int .i64 0, .int .i64 0, .int .i64 0, .int .i64 0] 24)) (w.heap.size + 1 + 1) 24 ⟨0, 0, 0, 0, 0⟩) := hide RX
    have HB := hide ((b1.trans (b2.mono b1.size)).trans (b3.mono (b1.trans (b2.mono b1.size)).size))
    clear b1 b2 b3
    generalize ((w.alloc (.cells #[.int .i64 3, .int .i64 t, .int .i64 aa, .int .i64 ab, .int .i64 ac] 24)).alloc (.cells #[.int .i64 6, .int .i64 t, .int .i64 t, .int .i64 bb, .int .i64 bc] 24)).alloc (.cells #[.int .i64 0, .int .i64 0, .int .i64 0, .int .i64 0, .int .i64 0] 24) = w1 at *
    obtain ⟨R, hR⟩ : ∃ B, B = w.heap.size + 1 + 1 := ⟨_, rfl⟩
    have ZR := hide hR
    try rw [show w.heap.size + 2 = w.heap.size + 1 + 1 from rfl]
    rw [← hR] at RX ⊢
    clear hR
    obtain ⟨B1, hB1⟩ : ∃ B, B = w.heap.size + 1 := ⟨_, rfl⟩
    have ZB1 := hide hB1
    rw [← hB1] at IX1 ⊢
    clear hB1
    obtain ⟨B0, hB0⟩ : ∃ B, B = w.heap.size := ⟨_, rfl⟩
    have ZB0 := hide hB0
    rw [← hB0] at IX0 ⊢
    clear hB0
    have k0 := IX0.out.cells.cell0
    have k1 := IX0.out.cells.cell1
    have k2 := IX0.out.cells.cell2
    have k3 := IX0.out.cells.cell3
    have k4 := IX0.out.cells.cell4
    simp only [Nat.zero_add] at k1 k2 k3 k4
    have l0 := IX1.out.cells.cell0
    have l1 := IX1.out.cells.cell1
    have l2 := IX1.out.cells.cell2
    have l3 := IX1.out.cells.cell3
    have l4 := IX1.out.cells.cell4
    simp only [Nat.zero_add] at l1 l2 l3 l4
    have q0 := RX.out.cells.cell0
    have q1 := RX.out.cells.cell1
    have q2 := RX.out.cells.cell2
    have q3 := RX.out.cells.cell3
    have q4 := RX.out.cells.cell4
    simp only [Nat.zero_add] at q1 q2 q3 q4
    have f0 := RX.out.free 0
    have f1 := RX.out.free 1
    have f2 := RX.out.free 2
    have f3 := RX.out.free 3
    have f4 := RX.out.free 4
    go_upto_region 3 with fail
    clear k0 k1 k2 k3 k4 l0 l1 l2 l3 l4 q0 q1 q2 q3 q4 f0 f1 f2 f3 f4
    refine wp_calm (fun w' => Below w.heap.size w w' ∧ Box5 w' B0 24 ⟨3, t, aa, ab, ac⟩ ∧ Box5 w' B1 24 ⟨6, t, t, bb, bc⟩ ∧ Box5 w' R 24 ⟨0, 0, 0, 0, 0⟩) (fun _ => true) 6 #[false, false, false, false, false, false] (by kernel_rfl) rfl rfl ?_
    have HF := hide (And.intro (HB.out.drew) (And.intro (IX0.out.drew) (And.intro (IX1.out.drew) (RX.out.drew))))
    generalize w1.drew = w1d at *
    refine Calm.takeL 6 (i := 0) (v := ?_) (a' := ?_) (l' := #[true, false, false, false, false, false]) (d := some 31) (by kernel_rfl) rfl (by kernel_rfl) (by kernel_rfl) (by kernel_rfl) (by kernel_rfl) (fun _ _ _ h => h) HF.out rfl ?_ rfl rfl ?_ ?_
    rotate_left
    · intro w' hF; clear hF; go_simp; try rfl
    rotate_left
    · simp only [Act.put]; exact rfl
    refine Calm.takeL 6 (i := 1) (v := ?_) (a' := ?_) (l' := #[true, true, false, false, false, false]) (d := some 32) (by kernel_rfl) rfl (by kernel_rfl) (by kernel_rfl) (by kernel_rfl) (by kernel_rfl) (fun _ _ _ h => h) HF.out rfl ?_ rfl rfl ?_ ?_
    rotate_left
    · intro w' hF; have f10 := hF.2.1.cells.cell0; have f11 := hF.2.1.cells.cell1; have f12 := hF.2.1.cells.cell2; have f13 := hF.2.1.cells.cell3; have f14 := hF.2.1.cells.cell4; simp only [Nat.zero_add] at f11 f12 f13 f14; have f20 := hF.2.2.1.cells.cell0; have f21 := hF.2.2.1.cells.cell1; have f22 := hF.2.2.1.cells.cell2; have f23 := hF.2.2.1.cells.cell3; have f24 := hF.2.2.1.cells.cell4; simp only [Nat.zero_add] at f21 f22 f23 f24; have f30 := hF.2.2.2.cells.cell0; have f31 := hF.2.2.2.cells.cell1; have f32 := hF.2.2.2.cells.cell2; have f33 := hF.2.2.2.cells.cell3; have f34 := hF.2.2.2.cells.cell4; simp only [Nat.zero_add] at f31 f32 f33 f34; clear hF; go_simp; try rfl
    rotate_left
    · simp only [Act.put]; exact rfl
    refine Calm.takeL 6 (i := 2) (v := ?_) (a' := ?_) (l' := #[true, true, true, false, false, false]) (d := some 33) (by kernel_rfl) rfl (by kernel_rfl) (by kernel_rfl) (by kernel_rfl) (by kernel_rfl) (fun _ _ _ h => h) HF.out rfl ?_ rfl rfl ?_ ?_
    rotate_left
    · intro w' hF; clear hF; go_simp; try rfl
    rotate_left
    · simp only [Act.put]; exact rfl
    refine Calm.takeL 6 (i := 3) (v := ?_) (a' := ?_) (l' := #[true, true, true, true, false, false]) (d := some 34) (by kernel_rfl) rfl (by kernel_rfl) (by kernel_rfl) (by kernel_rfl) (by kernel_rfl) (fun _ _ _ h => h) HF.out rfl ?_ rfl rfl ?_ ?_
    rotate_left
    · intro w' hF; have f10 := hF.2.1.cells.cell0; have f11 := hF.2.1.cells.cell1; have f12 := hF.2.1.cells.cell2; have f13 := hF.2.1.cells.cell3; have f14 := hF.2.1.cells.cell4; simp only [Nat.zero_add] at f11 f12 f13 f14; have f20 := hF.2.2.1.cells.cell0; have f21 := hF.2.2.1.cells.cell1; have f22 := hF.2.2.1.cells.cell2; have f23 := hF.2.2.1.cells.cell3; have f24 := hF.2.2.1.cells.cell4; simp only [Nat.zero_add] at f21 f22 f23 f24; have f30 := hF.2.2.2.cells.cell0; have f31 := hF.2.2.2.cells.cell1; have f32 := hF.2.2.2.cells.cell2; have f33 := hF.2.2.2.cells.cell3; have f34 := hF.2.2.2.cells.cell4; simp only [Nat.zero_add] at f31 f32 f33 f34; clear hF; go_simp; try rfl
    rotate_left
    · simp only [Act.put]; exact rfl
    refine Calm.takeL 6 (i := 4) (v := ?_) (a' := ?_) (l' := #[true, true, true, true, true, false]) (d := some 6) (by kernel_rfl) rfl (by kernel_rfl) (by kernel_rfl) (by kernel_rfl) (by kernel_rfl) (fun _ _ _ h => h) HF.out rfl ?_ rfl rfl ?_ ?_
    rotate_left
    · intro w' hF; clear hF; go_simp; try rfl
    rotate_left
    · simp only [Act.put]; exact rfl
    refine Calm.takeL 6 (i := 5) (v := ?_) (a' := ?_) (l' := #[true, true, true, true, true, true]) (d := some 7) (by kernel_rfl) rfl (by kernel_rfl) (by kernel_rfl) (by kernel_rfl) (by kernel_rfl) (fun _ _ _ h => h) HF.out rfl ?_ rfl rfl ?_ ?_
    rotate_left
    · intro w' hF; clear hF; go_simp; try rfl
    rotate_left
    · simp only [Act.put]; exact rfl
    refine Calm.done (by kernel_rfl) ?_
    replace HB := hide HF.out.1
    replace IX0 := hide HF.out.2.1
    replace IX1 := hide HF.out.2.2.1
    replace RX := hide HF.out.2.2.2
    clear HF
    have k0 := IX0.out.cells.cell0
    have k1 := IX0.out.cells.cell1
    have k2 := IX0.out.cells.cell2
    have k3 := IX0.out.cells.cell3
    have k4 := IX0.out.cells.cell4
    simp only [Nat.zero_add] at k1 k2 k3 k4
    have l0 := IX1.out.cells.cell0
    have l1 := IX1.out.cells.cell1
    have l2 := IX1.out.cells.cell2
    have l3 := IX1.out.cells.cell3
    have l4 := IX1.out.cells.cell4
    simp only [Nat.zero_add] at l1 l2 l3 l4
    have q0 := RX.out.cells.cell0
    have q1 := RX.out.cells.cell1
    have q2 := RX.out.cells.cell2
    have q3 := RX.out.cells.cell3
    have q4 := RX.out.cells.cell4
    simp only [Nat.zero_add] at q1 q2 q3 q4
    have f0 := RX.out.free 0
    have f1 := RX.out.free 1
    have f2 := RX.out.free 2
    have f3 := RX.out.free 3
    have f4 := RX.out.free 4
    go_wp2
    refine ret_insb rfl R ⟨0, 0, 0, 0, 0⟩ rfl (RX.out.put ⟨0, 0, 0, 0, 0⟩) rfl ⟨by rw [HRES.out]; rfl, ?_⟩
    exact below_put5 HB.out (by have := ZR.out; omega) _ _ _ _ _
  · skip
    obtain ⟨b0, b1⟩ : 1 ≤ bc ∧ bc ≤ 64 := by omega
    clear hi hj
    have HRES : Hid (meI ⟨3, t, aa, ab, ac⟩ ⟨7, t, t, bb, bc⟩ = none) := hide (meI_none (a := ⟨3, t, aa, ab, ac⟩) (b := ⟨7, t, t, bb, bc⟩) (rfl))
    generalize meI ⟨3, t, aa, ab, ac⟩ ⟨7, t, t, bb, bc⟩ = G at *
    go_enter Tryd.func25, Tryd.ntmps25
    go_upto_region 1 with fail
    have b1 := below_alloc w (.cells #[.int .i64 3, .int .i64 t, .int .i64 aa, .int .i64 ab, .int .i64 ac] 24)
    have b2 := below_alloc (w.alloc (.cells #[.int .i64 3, .int .i64 t, .int .i64 aa, .int .i64 ab, .int .i64 ac] 24)) (.cells #[.int .i64 7, .int .i64 t, .int .i64 t, .int .i64 bb, .int .i64 bc] 24)
    have b3 := below_alloc ((w.alloc (.cells #[.int .i64 3, .int .i64 t, .int .i64 aa, .int .i64 ab, .int .i64 ac] 24)).alloc (.cells #[.int .i64 7, .int .i64 t, .int .i64 t, .int .i64 bb, .int .i64 bc] 24)) (.cells #[.int .i64 0, .int .i64 0, .int .i64 0, .int .i64 0, .int .i64 0] 24)
    have IX0 := (((Box5.new w 24 ⟨3, t, aa, ab, ac⟩).step b2).step b3)
    replace IX0 : Hid (Box5 (((w.alloc (.cells #[.int .i64 3, .int .i64 t, .int .i64 aa, .int .i64 ab, .int .i64 ac] 24)).alloc (.cells #[.int .i64 7, .int .i64 t, .int .i64 t, .int .i64 bb, .int .i64 bc] 24)).alloc (.cells #[.int .i64 0, .int .i64 0, .int .i64 0, .int .i64 0, .int .i64 0] 24)) (w.heap.size) 24 ⟨3, t, aa, ab, ac⟩) := hide IX0
    have IX1 := ((Box5.new (w.alloc (.cells #[.int .i64 3, .int .i64 t, .int .i64 aa, .int .i64 ab, .int .i64 ac] 24)) 24 ⟨7, t, t, bb, bc⟩).step b3)
    simp only [World.size_alloc] at IX1
    replace IX1 : Hid (Box5 (((w.alloc (.cells #[.int .i64 3, .int .i64 t, .int .i64 aa, .int .i64 ab, .int .i64 ac] 24)).alloc (.cells #[.int .i64 7, .int .i64 t, .int .i64 t, .int .i64 bb, .int .i64 bc] 24)).alloc (.cells #[.int .i64 0, .int .i64 0, .int .i64 0, .int .i64 0, .int .i64 0] 24)) (w.heap.size + 1) 24 ⟨7, t, t, bb, bc⟩) := hide IX1
    have RX := (Box5.new ((w.alloc (.cells #[.int .i64 3, .int .i64 t, .int .i64 aa, .int .i64 ab, .int .i64 ac] 24)).alloc (.cells #[.int .i64 7, .int .i64 t, .int .i64 t, .int .i64 bb, .int .i64 bc] 24)) 24 ⟨0, 0, 0, 0, 0⟩)
    simp only [World.size_alloc] at RX
    replace RX : Hid (Box5 (((w.alloc (.cells #[.int .i64 3, .int .i64 t, .int .i64 aa, .int .i64 ab, .int .i64 ac] 24)).alloc (.cells #[.int .i64 7, .int .i64 t, .int .i64 t, .int .i64 bb, .int .i64 bc] 24)).alloc (.cells #[.int .i64 0, .int .i64 0, .int .i64 0, .int .i64 0, .int .i64 0] 24)) (w.heap.size + 1 + 1) 24 ⟨0, 0, 0, 0, 0⟩) := hide RX
    have HB := hide ((b1.trans (b2.mono b1.size)).trans (b3.mono (b1.trans (b2.mono b1.size)).size))
    clear b1 b2 b3
    generalize ((w.alloc (.cells #[.int .i64 3, .int .i64 t, .int .i64 aa, .int .i64 ab, .int .i64 ac] 24)).alloc (.cells #[.int .i64 7, .int .i64 t, .int .i64 t, .int .i64 bb, .int .i64 bc] 24)).alloc (.cells #[.int .i64 0, .int .i64 0, .int .i64 0, .int .i64 0, .int .i64 0] 24) = w1 at *
    obtain ⟨R, hR⟩ : ∃ B, B = w.heap.size + 1 + 1 := ⟨_, rfl⟩
    have ZR := hide hR
    try rw [show w.heap.size + 2 = w.heap.size + 1 + 1 from rfl]
    rw [← hR] at RX ⊢
    clear hR
    obtain ⟨B1, hB1⟩ : ∃ B, B = w.heap.size + 1 := ⟨_, rfl⟩
    have ZB1 := hide hB1
    rw [← hB1] at IX1 ⊢
    clear hB1
    obtain ⟨B0, hB0⟩ : ∃ B, B = w.heap.size := ⟨_, rfl⟩
    have ZB0 := hide hB0
    rw [← hB0] at IX0 ⊢
    clear hB0
    have k0 := IX0.out.cells.cell0
    have k1 := IX0.out.cells.cell1
    have k2 := IX0.out.cells.cell2
    have k3 := IX0.out.cells.cell3
    have k4 := IX0.out.cells.cell4
    simp only [Nat.zero_add] at k1 k2 k3 k4
    have l0 := IX1.out.cells.cell0
    have l1 := IX1.out.cells.cell1
    have l2 := IX1.out.cells.cell2
    have l3 := IX1.out.cells.cell3
    have l4 := IX1.out.cells.cell4
    simp only [Nat.zero_add] at l1 l2 l3 l4
    have q0 := RX.out.cells.cell0
    have q1 := RX.out.cells.cell1
    have q2 := RX.out.cells.cell2
    have q3 := RX.out.cells.cell3
    have q4 := RX.out.cells.cell4
    simp only [Nat.zero_add] at q1 q2 q3 q4
    have f0 := RX.out.free 0
    have f1 := RX.out.free 1
    have f2 := RX.out.free 2
    have f3 := RX.out.free 3
    have f4 := RX.out.free 4
    go_upto_region 3 with fail
    clear k0 k1 k2 k3 k4 l0 l1 l2 l3 l4 q0 q1 q2 q3 q4 f0 f1 f2 f3 f4
    refine wp_calm (fun w' => Below w.heap.size w w' ∧ Box5 w' B0 24 ⟨3, t, aa, ab, ac⟩ ∧ Box5 w' B1 24 ⟨7, t, t, bb, bc⟩ ∧ Box5 w' R 24 ⟨0, 0, 0, 0, 0⟩) (fun _ => true) 6 #[false, false, false, false, false, false] (by kernel_rfl) rfl rfl ?_
    have HF := hide (And.intro (HB.out.drew) (And.intro (IX0.out.drew) (And.intro (IX1.out.drew) (RX.out.drew))))
    generalize w1.drew = w1d at *
    refine Calm.takeL 6 (i := 0) (v := ?_) (a' := ?_) (l' := #[true, false, false, false, false, false]) (d := some 31) (by kernel_rfl) rfl (by kernel_rfl) (by kernel_rfl) (by kernel_rfl) (by kernel_rfl) (fun _ _ _ h => h) HF.out rfl ?_ rfl rfl ?_ ?_
    rotate_left
    · intro w' hF; clear hF; go_simp; try rfl
    rotate_left
    · simp only [Act.put]; exact rfl
    refine Calm.takeL 6 (i := 1) (v := ?_) (a' := ?_) (l' := #[true, true, false, false, false, false]) (d := some 32) (by kernel_rfl) rfl (by kernel_rfl) (by kernel_rfl) (by kernel_rfl) (by kernel_rfl) (fun _ _ _ h => h) HF.out rfl ?_ rfl rfl ?_ ?_
    rotate_left
    · intro w' hF; have f10 := hF.2.1.cells.cell0; have f11 := hF.2.1.cells.cell1; have f12 := hF.2.1.cells.cell2; have f13 := hF.2.1.cells.cell3; have f14 := hF.2.1.cells.cell4; simp only [Nat.zero_add] at f11 f12 f13 f14; have f20 := hF.2.2.1.cells.cell0; have f21 := hF.2.2.1.cells.cell1; have f22 := hF.2.2.1.cells.cell2; have f23 := hF.2.2.1.cells.cell3; have f24 := hF.2.2.1.cells.cell4; simp only [Nat.zero_add] at f21 f22 f23 f24; have f30 := hF.2.2.2.cells.cell0; have f31 := hF.2.2.2.cells.cell1; have f32 := hF.2.2.2.cells.cell2; have f33 := hF.2.2.2.cells.cell3; have f34 := hF.2.2.2.cells.cell4; simp only [Nat.zero_add] at f31 f32 f33 f34; clear hF; go_simp; try rfl
    rotate_left
    · simp only [Act.put]; exact rfl
    refine Calm.takeL 6 (i := 2) (v := ?_) (a' := ?_) (l' := #[true, true, true, false, false, false]) (d := some 33) (by kernel_rfl) rfl (by kernel_rfl) (by kernel_rfl) (by kernel_rfl) (by kernel_rfl) (fun _ _ _ h => h) HF.out rfl ?_ rfl rfl ?_ ?_
    rotate_left
    · intro w' hF; clear hF; go_simp; try rfl
    rotate_left
    · simp only [Act.put]; exact rfl
    refine Calm.takeL 6 (i := 3) (v := ?_) (a' := ?_) (l' := #[true, true, true, true, false, false]) (d := some 34) (by kernel_rfl) rfl (by kernel_rfl) (by kernel_rfl) (by kernel_rfl) (by kernel_rfl) (fun _ _ _ h => h) HF.out rfl ?_ rfl rfl ?_ ?_
    rotate_left
    · intro w' hF; have f10 := hF.2.1.cells.cell0; have f11 := hF.2.1.cells.cell1; have f12 := hF.2.1.cells.cell2; have f13 := hF.2.1.cells.cell3; have f14 := hF.2.1.cells.cell4; simp only [Nat.zero_add] at f11 f12 f13 f14; have f20 := hF.2.2.1.cells.cell0; have f21 := hF.2.2.1.cells.cell1; have f22 := hF.2.2.1.cells.cell2; have f23 := hF.2.2.1.cells.cell3; have f24 := hF.2.2.1.cells.cell4; simp only [Nat.zero_add] at f21 f22 f23 f24; have f30 := hF.2.2.2.cells.cell0; have f31 := hF.2.2.2.cells.cell1; have f32 := hF.2.2.2.cells.cell2; have f33 := hF.2.2.2.cells.cell3; have f34 := hF.2.2.2.cells.cell4; simp only [Nat.zero_add] at f31 f32 f33 f34; clear hF; go_simp; try rfl
    rotate_left
    · simp only [Act.put]; exact rfl
    refine Calm.takeL 6 (i := 4) (v := ?_) (a' := ?_) (l' := #[true, true, true, true, true, false]) (d := some 6) (by kernel_rfl) rfl (by kernel_rfl) (by kernel_rfl) (by kernel_rfl) (by kernel_rfl) (fun _ _ _ h => h) HF.out rfl ?_ rfl rfl ?_ ?_
    rotate_left
    · intro w' hF; clear hF; go_simp; try rfl
    rotate_left
    · simp only [Act.put]; exact rfl
    refine Calm.takeL 6 (i := 5) (v := ?_) (a' := ?_) (l' := #[true, true, true, true, true, true]) (d := some 7) (by kernel_rfl) rfl (by kernel_rfl) (by kernel_rfl) (by kernel_rfl) (by kernel_rfl) (fun _ _ _ h => h) HF.out rfl ?_ rfl rfl ?_ ?_
    rotate_left
    · intro w' hF; clear hF; go_simp; try rfl
    rotate_left
    · simp only [Act.put]; exact rfl
    refine Calm.done (by kernel_rfl) ?_
    replace HB := hide HF.out.1
    replace IX0 := hide HF.out.2.1
    replace IX1 := hide HF.out.2.2.1
    replace RX := hide HF.out.2.2.2
    clear HF
    have k0 := IX0.out.cells.cell0
    have k1 := IX0.out.cells.cell1
    have k2 := IX0.out.cells.cell2
    have k3 := IX0.out.cells.cell3
    have k4 := IX0.out.cells.cell4
    simp only [Nat.zero_add] at k1 k2 k3 k4
    have l0 := IX1.out.cells.cell0
    have l1 := IX1.out.cells.cell1
    have l2 := IX1.out.cells.cell2
    have l3 := IX1.out.cells.cell3
    have l4 := IX1.out.cells.cell4
    simp only [Nat.zero_add] at l1 l2 l3 l4
    have q0 := RX.out.cells.cell0
    have q1 := RX.out.cells.cell1
    have q2 := RX.out.cells.cell2
    have q3 := RX.out.cells.cell3
    have q4 := RX.out.cells.cell4
    simp only [Nat.zero_add] at q1 q2 q3 q4
    have f0 := RX.out.free 0
    have f1 := RX.out.free 1
    have f2 := RX.out.free 2
    have f3 := RX.out.free 3
    have f4 := RX.out.free 4
    go_wp2
    refine ret_insb rfl R ⟨0, 0, 0, 0, 0⟩ rfl (RX.out.put ⟨0, 0, 0, 0, 0⟩) rfl ⟨by rw [HRES.out]; rfl, ?_⟩
    exact below_put5 HB.out (by have := ZR.out; omega) _ _ _ _ _
  · skip
    obtain ⟨b0, b1⟩ : 1 ≤ bc ∧ bc ≤ 64 := by omega
    clear hi hj
    have HRES : Hid (meI ⟨3, t, aa, ab, ac⟩ ⟨8, t, t, bb, bc⟩ = none) := hide (meI_none (a := ⟨3, t, aa, ab, ac⟩) (b := ⟨8, t, t, bb, bc⟩) (rfl))
    generalize meI ⟨3, t, aa, ab, ac⟩ ⟨8, t, t, bb, bc⟩ = G at *
    go_enter Tryd.func25, Tryd.ntmps25
    go_upto_region 1 with fail
    have b1 := below_alloc w (.cells #[.int .i64 3, .int .i64 t, .int .i64 aa, .int .i64 ab, .int .i64 ac] 24)
    have b2 := below_alloc (w.alloc (.cells #[.int .i64 3, .int .i64 t, .int .i64 aa, .int .i64 ab, .int .i64 ac] 24)) (.cells #[.int .i64 8, .int .i64 t, .int .i64 t, .int .i64 bb, .int .i64 bc] 24)
    have b3 := below_alloc ((w.alloc (.cells #[.int .i64 3, .int .i64 t, .int .i64 aa, .int .i64 ab, .int .i64 ac] 24)).alloc (.cells #[.int .i64 8, .int .i64 t, .int .i64 t, .int .i64 bb, .int .i64 bc] 24)) (.cells #[.int .i64 0, .int .i64 0, .int .i64 0, .int .i64 0, .int .i64 0] 24)
    have IX0 := (((Box5.new w 24 ⟨3, t, aa, ab, ac⟩).step b2).step b3)
    replace IX0 : Hid (Box5 (((w.alloc (.cells #[.int .i64 3, .int .i64 t, .int .i64 aa, .int .i64 ab, .int .i64 ac] 24)).alloc (.cells #[.int .i64 8, .int .i64 t, .int .i64 t, .int .i64 bb, .int .i64 bc] 24)).alloc (.cells #[.int .i64 0, .int .i64 0, .int .i64 0, .int .i64 0, .int .i64 0] 24)) (w.heap.size) 24 ⟨3, t, aa, ab, ac⟩) := hide IX0
    have IX1 := ((Box5.new (w.alloc (.cells #[.int .i64 3, .int .i64 t, .int .i64 aa, .int .i64 ab, .int .i64 ac] 24)) 24 ⟨8, t, t, bb, bc⟩).step b3)
    simp only [World.size_alloc] at IX1
    replace IX1 : Hid (Box5 (((w.alloc (.cells #[.int .i64 3, .int .i64 t, .int .i64 aa, .int .i64 ab, .int .i64 ac] 24)).alloc (.cells #[.int .i64 8, .int .i64 t, .int .i64 t, .int .i64 bb, .int .i64 bc] 24)).alloc (.cells #[.int .i64 0, .int .i64 0, .int .i64 0, .int .i64 0, .int .i64 0] 24)) (w.heap.size + 1) 24 ⟨8, t, t, bb, bc⟩) := hide IX1
    have RX := (Box5.new ((w.alloc (.cells #[.int .i64 3, .int .i64 t, .int .i64 aa, .int .i64 ab, .int .i64 ac] 24)).alloc (.cells #[.int .i64 8, .int .i64 t, .int .i64 t, .int .i64 bb, .int .i64 bc] 24)) 24 ⟨0, 0, 0, 0, 0⟩)
    simp only [World.size_alloc] at RX
    replace RX : Hid (Box5 (((w.alloc (.cells #[.int .i64 3, .int .i64 t, .int .i64 aa, .int .i64 ab, .int .i64 ac] 24)).alloc (.cells #[.int .i64 8, .int .i64 t, .int .i64 t, .int .i64 bb, .int .i64 bc] 24)).alloc (.cells #[.int .i64 0, .int .i64 0, .int .i64 0, .int .i64 0, .int .i64 0] 24)) (w.heap.size + 1 + 1) 24 ⟨0, 0, 0, 0, 0⟩) := hide RX
    have HB := hide ((b1.trans (b2.mono b1.size)).trans (b3.mono (b1.trans (b2.mono b1.size)).size))
    clear b1 b2 b3
    generalize ((w.alloc (.cells #[.int .i64 3, .int .i64 t, .int .i64 aa, .int .i64 ab, .int .i64 ac] 24)).alloc (.cells #[.int .i64 8, .int .i64 t, .int .i64 t, .int .i64 bb, .int .i64 bc] 24)).alloc (.cells #[.int .i64 0, .int .i64 0, .int .i64 0, .int .i64 0, .int .i64 0] 24) = w1 at *
    obtain ⟨R, hR⟩ : ∃ B, B = w.heap.size + 1 + 1 := ⟨_, rfl⟩
    have ZR := hide hR
    try rw [show w.heap.size + 2 = w.heap.size + 1 + 1 from rfl]
    rw [← hR] at RX ⊢
    clear hR
    obtain ⟨B1, hB1⟩ : ∃ B, B = w.heap.size + 1 := ⟨_, rfl⟩
    have ZB1 := hide hB1
    rw [← hB1] at IX1 ⊢
    clear hB1
    obtain ⟨B0, hB0⟩ : ∃ B, B = w.heap.size := ⟨_, rfl⟩
    have ZB0 := hide hB0
    rw [← hB0] at IX0 ⊢
    clear hB0
    have k0 := IX0.out.cells.cell0
    have k1 := IX0.out.cells.cell1
    have k2 := IX0.out.cells.cell2
    have k3 := IX0.out.cells.cell3
    have k4 := IX0.out.cells.cell4
    simp only [Nat.zero_add] at k1 k2 k3 k4
    have l0 := IX1.out.cells.cell0
    have l1 := IX1.out.cells.cell1
    have l2 := IX1.out.cells.cell2
    have l3 := IX1.out.cells.cell3
    have l4 := IX1.out.cells.cell4
    simp only [Nat.zero_add] at l1 l2 l3 l4
    have q0 := RX.out.cells.cell0
    have q1 := RX.out.cells.cell1
    have q2 := RX.out.cells.cell2
    have q3 := RX.out.cells.cell3
    have q4 := RX.out.cells.cell4
    simp only [Nat.zero_add] at q1 q2 q3 q4
    have f0 := RX.out.free 0
    have f1 := RX.out.free 1
    have f2 := RX.out.free 2
    have f3 := RX.out.free 3
    have f4 := RX.out.free 4
    go_upto_region 3 with fail
    clear k0 k1 k2 k3 k4 l0 l1 l2 l3 l4 q0 q1 q2 q3 q4 f0 f1 f2 f3 f4
    refine wp_calm (fun w' => Below w.heap.size w w' ∧ Box5 w' B0 24 ⟨3, t, aa, ab, ac⟩ ∧ Box5 w' B1 24 ⟨8, t, t, bb, bc⟩ ∧ Box5 w' R 24 ⟨0, 0, 0, 0, 0⟩) (fun _ => true) 6 #[false, false, false, false, false, false] (by kernel_rfl) rfl rfl ?_
    have HF := hide (And.intro (HB.out.drew) (And.intro (IX0.out.drew) (And.intro (IX1.out.drew) (RX.out.drew))))
    generalize w1.drew = w1d at *
    refine Calm.takeL 6 (i := 0) (v := ?_) (a' := ?_) (l' := #[true, false, false, false, false, false]) (d := some 31) (by kernel_rfl) rfl (by kernel_rfl) (by kernel_rfl) (by kernel_rfl) (by kernel_rfl) (fun _ _ _ h => h) HF.out rfl ?_ rfl rfl ?_ ?_
    rotate_left
    · intro w' hF; clear hF; go_simp; try rfl
    rotate_left
    · simp only [Act.put]; exact rfl
    refine Calm.takeL 6 (i := 1) (v := ?_) (a' := ?_) (l' := #[true, true, false, false, false, false]) (d := some 32) (by kernel_rfl) rfl (by kernel_rfl) (by kernel_rfl) (by kernel_rfl) (by kernel_rfl) (fun _ _ _ h => h) HF.out rfl ?_ rfl rfl ?_ ?_
    rotate_left
    · intro w' hF; have f10 := hF.2.1.cells.cell0; have f11 := hF.2.1.cells.cell1; have f12 := hF.2.1.cells.cell2; have f13 := hF.2.1.cells.cell3; have f14 := hF.2.1.cells.cell4; simp only [Nat.zero_add] at f11 f12 f13 f14; have f20 := hF.2.2.1.cells.cell0; have f21 := hF.2.2.1.cells.cell1; have f22 := hF.2.2.1.cells.cell2; have f23 := hF.2.2.1.cells.cell3; have f24 := hF.2.2.1.cells.cell4; simp only [Nat.zero_add] at f21 f22 f23 f24; have f30 := hF.2.2.2.cells.cell0; have f31 := hF.2.2.2.cells.cell1; have f32 := hF.2.2.2.cells.cell2; have f33 := hF.2.2.2.cells.cell3; have f34 := hF.2.2.2.cells.cell4; simp only [Nat.zero_add] at f31 f32 f33 f34; clear hF; go_simp; try rfl
    rotate_left
    · simp only [Act.put]; exact rfl
    refine Calm.takeL 6 (i := 2) (v := ?_) (a' := ?_) (l' := #[true, true, true, false, false, false]) (d := some 33) (by kernel_rfl) rfl (by kernel_rfl) (by kernel_rfl) (by kernel_rfl) (by kernel_rfl) (fun _ _ _ h => h) HF.out rfl ?_ rfl rfl ?_ ?_
    rotate_left
    · intro w' hF; clear hF; go_simp; try rfl
    rotate_left
    · simp only [Act.put]; exact rfl
    refine Calm.takeL 6 (i := 3) (v := ?_) (a' := ?_) (l' := #[true, true, true, true, false, false]) (d := some 34) (by kernel_rfl) rfl (by kernel_rfl) (by kernel_rfl) (by kernel_rfl) (by kernel_rfl) (fun _ _ _ h => h) HF.out rfl ?_ rfl rfl ?_ ?_
    rotate_left
    · intro w' hF; have f10 := hF.2.1.cells.cell0; have f11 := hF.2.1.cells.cell1; have f12 := hF.2.1.cells.cell2; have f13 := hF.2.1.cells.cell3; have f14 := hF.2.1.cells.cell4; simp only [Nat.zero_add] at f11 f12 f13 f14; have f20 := hF.2.2.1.cells.cell0; have f21 := hF.2.2.1.cells.cell1; have f22 := hF.2.2.1.cells.cell2; have f23 := hF.2.2.1.cells.cell3; have f24 := hF.2.2.1.cells.cell4; simp only [Nat.zero_add] at f21 f22 f23 f24; have f30 := hF.2.2.2.cells.cell0; have f31 := hF.2.2.2.cells.cell1; have f32 := hF.2.2.2.cells.cell2; have f33 := hF.2.2.2.cells.cell3; have f34 := hF.2.2.2.cells.cell4; simp only [Nat.zero_add] at f31 f32 f33 f34; clear hF; go_simp; try rfl
    rotate_left
    · simp only [Act.put]; exact rfl
    refine Calm.takeL 6 (i := 4) (v := ?_) (a' := ?_) (l' := #[true, true, true, true, true, false]) (d := some 6) (by kernel_rfl) rfl (by kernel_rfl) (by kernel_rfl) (by kernel_rfl) (by kernel_rfl) (fun _ _ _ h => h) HF.out rfl ?_ rfl rfl ?_ ?_
    rotate_left
    · intro w' hF; clear hF; go_simp; try rfl
    rotate_left
    · simp only [Act.put]; exact rfl
    refine Calm.takeL 6 (i := 5) (v := ?_) (a' := ?_) (l' := #[true, true, true, true, true, true]) (d := some 7) (by kernel_rfl) rfl (by kernel_rfl) (by kernel_rfl) (by kernel_rfl) (by kernel_rfl) (fun _ _ _ h => h) HF.out rfl ?_ rfl rfl ?_ ?_
    rotate_left
    · intro w' hF; clear hF; go_simp; try rfl
    rotate_left
    · simp only [Act.put]; exact rfl
    refine Calm.done (by kernel_rfl) ?_
    replace HB := hide HF.out.1
    replace IX0 := hide HF.out.2.1
    replace IX1 := hide HF.out.2.2.1
    replace RX := hide HF.out.2.2.2
    clear HF
    have k0 := IX0.out.cells.cell0
    have k1 := IX0.out.cells.cell1
    have k2 := IX0.out.cells.cell2
    have k3 := IX0.out.cells.cell3
    have k4 := IX0.out.cells.cell4
    simp only [Nat.zero_add] at k1 k2 k3 k4
    have l0 := IX1.out.cells.cell0
    have l1 := IX1.out.cells.cell1
    have l2 := IX1.out.cells.cell2
    have l3 := IX1.out.cells.cell3
    have l4 := IX1.out.cells.cell4
    simp only [Nat.zero_add] at l1 l2 l3 l4
    have q0 := RX.out.cells.cell0
    have q1 := RX.out.cells.cell1
    have q2 := RX.out.cells.cell2
    have q3 := RX.out.cells.cell3
    have q4 := RX.out.cells.cell4
    simp only [Nat.zero_add] at q1 q2 q3 q4
    have f0 := RX.out.free 0
    have f1 := RX.out.free 1
    have f2 := RX.out.free 2
    have f3 := RX.out.free 3
    have f4 := RX.out.free 4
    go_wp2
    refine ret_insb rfl R ⟨0, 0, 0, 0, 0⟩ rfl (RX.out.put ⟨0, 0, 0, 0, 0⟩) rfl ⟨by rw [HRES.out]; rfl, ?_⟩
    exact below_put5 HB.out (by have := ZR.out; omega) _ _ _ _ _
end Go.Proofs.YtlghhpgnhppoeaaDoor
