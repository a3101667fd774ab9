/- the document's Melt. -/
import Derived.Test.YtlghhpgnhppoeaaDoorFoRm1
import Derived.Test.YtlghhpgnhppoeaaDoorFoRm2
import Derived.Test.YtlghhpgnhppoeaaDoorFoRm3
import Derived.Test.YtlghhpgnhppoeaaDoorFoRm4
import Derived.Test.YtlghhpgnhppoeaaDoorFoRm5
namespace Go.Proofs.YtlghhpgnhppoeaaDoor
open Go.RowKit

set_option maxRecDepth 100000 in
set_option maxHeartbeats 8000000 in
theorem rmelt_any (i j : Ins) (w : World) (hi : mayB i 128 = true) (hj : mayB j 128 = true) :
    Calls Tryd.prog 25 #[.agg #[.int .i64 i.op, .int .i64 i.to, .int .i64 i.a, .int .i64 i.b, .int .i64 i.c], .agg #[.int .i64 j.op, .int .i64 j.to, .int .i64 j.a, .int .i64 j.b, .int .i64 j.c]] w fun e w' => e = mlE (meI i j) ∧ Below w.heap.size w w' := by
  obtain ⟨ao, t1, aa, ab, ac⟩ := i
  obtain ⟨bo, t2, ba, bb, bc⟩ := j
  by_cases h2 : twoB bo = true
  · have HRES : Hid (meI ⟨ao, t1, aa, ab, ac⟩ ⟨bo, t2, ba, bb, bc⟩ = none) := hide (meI_no (by dsimp only; intro h; rw [h2] at h; exact absurd h.1 (by decide)))
    have hbo : bo = 3 ∨ bo = 4 := by unfold twoB at h2; simpa using h2
    clear h2 hi hj
    dsimp only
    generalize meI ⟨ao, t1, aa, ab, ac⟩ ⟨bo, t2, ba, bb, bc⟩ = G at *
    rcases hbo with rfl | rfl
    · skip
      go_enter Tryd.func25, Tryd.ntmps25
      go_upto_region 1 with fail
      have b1 := below_alloc w (.cells #[.int .i64 ao, .int .i64 t1, .int .i64 aa, .int .i64 ab, .int .i64 ac] 24)
      have b2 := below_alloc (w.alloc (.cells #[.int .i64 ao, .int .i64 t1, .int .i64 aa, .int .i64 ab, .int .i64 ac] 24)) (.cells #[.int .i64 3, .int .i64 t2, .int .i64 ba, .int .i64 bb, .int .i64 bc] 24)
      have b3 := below_alloc ((w.alloc (.cells #[.int .i64 ao, .int .i64 t1, .int .i64 aa, .int .i64 ab, .int .i64 ac] 24)).alloc (.cells #[.int .i64 3, .int .i64 t2, .int .i64 ba, .int .i64 bb, .int .i64 bc] 24)) (.cells #[.int .i64 0, .int .i64 0, .int .i64 0, .int .i64 0, .int .i64 0] 24)
      have IX0 := (((Box5.new w 24 ⟨ao, t1, aa, ab, ac⟩).step b2).step b3)
      replace IX0 : Hid (Box5 (((w.alloc (.cells #[.int .i64 ao, .int .i64 t1, .int .i64 aa, .int .i64 ab, .int .i64 ac] 24)).alloc (.cells #[.int .i64 3, .int .i64 t2, .int .i64 ba, .int .i64 bb, .int .i64 bc] 24)).alloc (.cells #[.int .i64 0, .int .i64 0, .int .i64 0, .int .i64 0, .int .i64 0] 24)) (w.heap.size) 24 ⟨ao, t1, aa, ab, ac⟩) := hide IX0
      have IX1 := ((Box5.new (w.alloc (.cells #[.int .i64 ao, .int .i64 t1, .int .i64 aa, .int .i64 ab, .int .i64 ac] 24)) 24 ⟨3, t2, ba, bb, bc⟩).step b3)
      simp only [World.size_alloc] at IX1
      replace IX1 : Hid (Box5 (((w.alloc (.cells #[.int .i64 ao, .int .i64 t1, .int .i64 aa, .int .i64 ab, .int .i64 ac] 24)).alloc (.cells #[.int .i64 3, .int .i64 t2, .int .i64 ba, .int .i64 bb, .int .i64 bc] 24)).alloc (.cells #[.int .i64 0, .int .i64 0, .int .i64 0, .int .i64 0, .int .i64 0] 24)) (w.heap.size + 1) 24 ⟨3, t2, ba, bb, bc⟩) := hide IX1
      have RX := (Box5.new ((w.alloc (.cells #[.int .i64 ao, .int .i64 t1, .int .i64 aa, .int .i64 ab, .int .i64 ac] 24)).alloc (.cells #[.int .i64 3, .int .i64 t2, .int .i64 ba, .int .i64 bb, .int .i64 bc] 24)) 24 ⟨0, 0, 0, 0, 0⟩)
      simp only [World.size_alloc] at RX
      replace RX : Hid (Box5 (((w.alloc (.cells #[.int .i64 ao, .int .i64 t1, .int .i64 aa, .int .i64 ab, .int .i64 ac] 24)).alloc (.cells #[.int .i64 3, .int .i64 t2, .int .i64 ba, .int .i64 bb, .int .i64 bc] 24)).alloc (.cells #[.int .i64 0, .int .i64 0, .int .i64 0, .int .i64 0, .int .i64 0] 24)) (w.heap.size + 1 + 1) 24 ⟨0, 0, 0, 0, 0⟩) := hide RX
      have HB := hide ((b1.trans (b2.mono b1.size)).trans (b3.mono (b1.trans (b2.mono b1.size)).size))
      clear b1 b2 b3
      generalize ((w.alloc (.cells #[.int .i64 ao, .int .i64 t1, .int .i64 aa, .int .i64 ab, .int .i64 ac] 24)).alloc (.cells #[.int .i64 3, .int .i64 t2, .int .i64 ba, .int .i64 bb, .int .i64 bc] 24)).alloc (.cells #[.int .i64 0, .int .i64 0, .int .i64 0, .int .i64 0, .int .i64 0] 24) = w1 at *
      obtain ⟨R, hR⟩ : ∃ B, B = w.heap.size + 1 + 1 := ⟨_, rfl⟩
      have ZR := hide hR
      try rw [show w.heap.size + 2 = w.heap.size + 1 + 1 from rfl]
      rw [← hR] at RX ⊢
      clear hR
      obtain ⟨B1, hB1⟩ : ∃ B, B = w.heap.size + 1 := ⟨_, rfl⟩
      have ZB1 := hide hB1
      rw [← hB1] at IX1 ⊢
      clear hB1
      obtain ⟨B0, hB0⟩ : ∃ B, B = w.heap.size := ⟨_, rfl⟩
      have ZB0 := hide hB0
      rw [← hB0] at IX0 ⊢
      clear hB0
      have k0 := IX0.out.cells.cell0
      have k1 := IX0.out.cells.cell1
      have k2 := IX0.out.cells.cell2
      have k3 := IX0.out.cells.cell3
      have k4 := IX0.out.cells.cell4
      simp only [Nat.zero_add] at k1 k2 k3 k4
      have l0 := IX1.out.cells.cell0
      have l1 := IX1.out.cells.cell1
      have l2 := IX1.out.cells.cell2
      have l3 := IX1.out.cells.cell3
      have l4 := IX1.out.cells.cell4
      simp only [Nat.zero_add] at l1 l2 l3 l4
      have q0 := RX.out.cells.cell0
      have q1 := RX.out.cells.cell1
      have q2 := RX.out.cells.cell2
      have q3 := RX.out.cells.cell3
      have q4 := RX.out.cells.cell4
      simp only [Nat.zero_add] at q1 q2 q3 q4
      have f0 := RX.out.free 0
      have f1 := RX.out.free 1
      have f2 := RX.out.free 2
      have f3 := RX.out.free 3
      have f4 := RX.out.free 4
      go_wp2
      refine ret_insb rfl R ⟨0, 0, 0, 0, 0⟩ rfl (RX.out.put ⟨0, 0, 0, 0, 0⟩) rfl ⟨by rw [HRES.out]; rfl, ?_⟩
      exact below_put5 HB.out (by have := ZR.out; omega) _ _ _ _ _
    · skip
      go_enter Tryd.func25, Tryd.ntmps25
      go_upto_region 1 with fail
      have b1 := below_alloc w (.cells #[.int .i64 ao, .int .i64 t1, .int .i64 aa, .int .i64 ab, .int .i64 ac] 24)
      have b2 := below_alloc (w.alloc (.cells #[.int .i64 ao, .int .i64 t1, .int .i64 aa, .int .i64 ab, .int .i64 ac] 24)) (.cells #[.int .i64 4, .int .i64 t2, .int .i64 ba, .int .i64 bb, .int .i64 bc] 24)
      have b3 := below_alloc ((w.alloc (.cells #[.int .i64 ao, .int .i64 t1, .int .i64 aa, .int .i64 ab, .int .i64 ac] 24)).alloc (.cells #[.int .i64 4, .int .i64 t2, .int .i64 ba, .int .i64 bb, .int .i64 bc] 24)) (.cells #[.int .i64 0, .int .i64 0, .int .i64 0, .int .i64 0, .int .i64 0] 24)
      have IX0 := (((Box5.new w 24 ⟨ao, t1, aa, ab, ac⟩).step b2).step b3)
      replace IX0 : Hid (Box5 (((w.alloc (.cells #[.int .i64 ao, .int .i64 t1, .int .i64 aa, .int .i64 ab, .int .i64 ac] 24)).alloc (.cells #[.int .i64 4, .int .i64 t2, .int .i64 ba, .int .i64 bb, .int .i64 bc] 24)).alloc (.cells #[.int .i64 0, .int .i64 0, .int .i64 0, .int .i64 0, .int .i64 0] 24)) (w.heap.size) 24 ⟨ao, t1, aa, ab, ac⟩) := hide IX0
      have IX1 := ((Box5.new (w.alloc (.cells #[.int .i64 ao, .int .i64 t1, .int .i64 aa, .int .i64 ab, .int .i64 ac] 24)) 24 ⟨4, t2, ba, bb, bc⟩).step b3)
      simp only [World.size_alloc] at IX1
      replace IX1 : Hid (Box5 (((w.alloc (.cells #[.int .i64 ao, .int .i64 t1, .int .i64 aa, .int .i64 ab, .int .i64 ac] 24)).alloc (.cells #[.int .i64 4, .int .i64 t2, .int .i64 ba, .int .i64 bb, .int .i64 bc] 24)).alloc (.cells #[.int .i64 0, .int .i64 0, .int .i64 0, .int .i64 0, .int .i64 0] 24)) (w.heap.size + 1) 24 ⟨4, t2, ba, bb, bc⟩) := hide IX1
      have RX := (Box5.new ((w.alloc (.cells #[.int .i64 ao, .int .i64 t1, .int .i64 aa, .int .i64 ab, .int .i64 ac] 24)).alloc (.cells #[.int .i64 4, .int .i64 t2, .int .i64 ba, .int .i64 bb, .int .i64 bc] 24)) 24 ⟨0, 0, 0, 0, 0⟩)
      simp only [World.size_alloc] at RX
      replace RX : Hid (Box5 (((w.alloc (.cells #[.int .i64 ao, .int .i64 t1, .int .i64 aa, .int .i64 ab, .int .i64 ac] 24)).alloc (.cells #[.int .i64 4, .int .i64 t2, .int .i64 ba, .int .i64 bb, .int .i64 bc] 24)).alloc (.cells #[.int .i64 0, .int .i64 0, .int .i64 0, .int .i64 0, .int .i64 0] 24)) (w.heap.size + 1 + 1) 24 ⟨0, 0, 0, 0, 0⟩) := hide RX
      have HB := hide ((b1.trans (b2.mono b1.size)).trans (b3.mono (b1.trans (b2.mono b1.size)).size))
      clear b1 b2 b3
      generalize ((w.alloc (.cells #[.int .i64 ao, .int .i64 t1, .int .i64 aa, .int .i64 ab, .int .i64 ac] 24)).alloc (.cells #[.int .i64 4, .int .i64 t2, .int .i64 ba, .int .i64 bb, .int .i64 bc] 24)).alloc (.cells #[.int .i64 0, .int .i64 0, .int .i64 0, .int .i64 0, .int .i64 0] 24) = w1 at *
      obtain ⟨R, hR⟩ : ∃ B, B = w.heap.size + 1 + 1 := ⟨_, rfl⟩
      have ZR := hide hR
      try rw [show w.heap.size + 2 = w.heap.size + 1 + 1 from rfl]
      rw [← hR] at RX ⊢
      clear hR
      obtain ⟨B1, hB1⟩ : ∃ B, B = w.heap.size + 1 := ⟨_, rfl⟩
      have ZB1 := hide hB1
      rw [← hB1] at IX1 ⊢
      clear hB1
      obtain ⟨B0, hB0⟩ : ∃ B, B = w.heap.size := ⟨_, rfl⟩
      have ZB0 := hide hB0
      rw [← hB0] at IX0 ⊢
      clear hB0
      have k0 := IX0.out.cells.cell0
      have k1 := IX0.out.cells.cell1
      have k2 := IX0.out.cells.cell2
      have k3 := IX0.out.cells.cell3
      have k4 := IX0.out.cells.cell4
      simp only [Nat.zero_add] at k1 k2 k3 k4
      have l0 := IX1.out.cells.cell0
      have l1 := IX1.out.cells.cell1
      have l2 := IX1.out.cells.cell2
      have l3 := IX1.out.cells.cell3
      have l4 := IX1.out.cells.cell4
      simp only [Nat.zero_add] at l1 l2 l3 l4
      have q0 := RX.out.cells.cell0
      have q1 := RX.out.cells.cell1
      have q2 := RX.out.cells.cell2
      have q3 := RX.out.cells.cell3
      have q4 := RX.out.cells.cell4
      simp only [Nat.zero_add] at q1 q2 q3 q4
      have f0 := RX.out.free 0
      have f1 := RX.out.free 1
      have f2 := RX.out.free 2
      have f3 := RX.out.free 3
      have f4 := RX.out.free 4
      go_wp2
      refine ret_insb rfl R ⟨0, 0, 0, 0, 0⟩ rfl (RX.out.put ⟨0, 0, 0, 0, 0⟩) rfl ⟨by rw [HRES.out]; rfl, ?_⟩
      exact below_put5 HB.out (by have := ZR.out; omega) _ _ _ _ _
  · by_cases h3 : ba = t1
    · by_cases h4 : t2 = t1
      · subst h3
        subst h4
        have h2' : twoB bo = false := by simpa using h2
        have ho : ao = 1 ∨ ao = 2 ∨ ao = 3 ∨ ao = 4 ∨ ao = 5 ∨ ao = 6 ∨ ao = 7 ∨ ao = 8 := by
          have h := hi
          rw [may_iff] at h
          dsimp only at h
          omega
        rcases ho with rfl | rfl | rfl | rfl | rfl | rfl | rfl | rfl
        · exact rmelt_1 t2 aa ab ac bo bb bc w hi hj h2'
        · exact rmelt_2 t2 aa ab ac bo bb bc w hi hj h2'
        · exact rmelt_3 t2 aa ab ac bo bb bc w hi hj h2'
        · exact rmelt_4 t2 aa ab ac bo bb bc w hi hj h2'
        · exact rmelt_5 t2 aa ab ac bo bb bc w hi hj h2'
        · exact rmelt_6 t2 aa ab ac bo bb bc w hi hj h2'
        · exact rmelt_7 t2 aa ab ac bo bb bc w hi hj h2'
        · exact rmelt_8 t2 aa ab ac bo bb bc w hi hj h2'
      · have HRES : Hid (meI ⟨ao, t1, aa, ab, ac⟩ ⟨bo, t2, ba, bb, bc⟩ = none) := hide (meI_no (by dsimp only; exact fun h => h4 h.2.2))
        have n1 : (bo == 3) = false ∧ (bo == 4) = false := by unfold twoB at h2; simpa using h2
        obtain ⟨n1, n2⟩ := n1
        have n3 : (t2 != t1) = true := by simpa using h4
        subst h3
        clear h2 hi hj
        dsimp only
        generalize meI ⟨ao, ba, aa, ab, ac⟩ ⟨bo, t2, ba, bb, bc⟩ = G at *
        go_enter Tryd.func25, Tryd.ntmps25
        go_upto_region 1 with fail
        have b1 := below_alloc w (.cells #[.int .i64 ao, .int .i64 ba, .int .i64 aa, .int .i64 ab, .int .i64 ac] 24)
        have b2 := below_alloc (w.alloc (.cells #[.int .i64 ao, .int .i64 ba, .int .i64 aa, .int .i64 ab, .int .i64 ac] 24)) (.cells #[.int .i64 bo, .int .i64 t2, .int .i64 ba, .int .i64 bb, .int .i64 bc] 24)
        have b3 := below_alloc ((w.alloc (.cells #[.int .i64 ao, .int .i64 ba, .int .i64 aa, .int .i64 ab, .int .i64 ac] 24)).alloc (.cells #[.int .i64 bo, .int .i64 t2, .int .i64 ba, .int .i64 bb, .int .i64 bc] 24)) (.cells #[.int .i64 0, .int .i64 0, .int .i64 0, .int .i64 0, .int .i64 0] 24)
        have IX0 := (((Box5.new w 24 ⟨ao, ba, aa, ab, ac⟩).step b2).step b3)
        replace IX0 : Hid (Box5 (((w.alloc (.cells #[.int .i64 ao, .int .i64 ba, .int .i64 aa, .int .i64 ab, .int .i64 ac] 24)).alloc (.cells #[.int .i64 bo, .int .i64 t2, .int .i64 ba, .int .i64 bb, .int .i64 bc] 24)).alloc (.cells #[.int .i64 0, .int .i64 0, .int .i64 0, .int .i64 0, .int .i64 0] 24)) (w.heap.size) 24 ⟨ao, ba, aa, ab, ac⟩) := hide IX0
        have IX1 := ((Box5.new (w.alloc (.cells #[.int .i64 ao, .int .i64 ba, .int .i64 aa, .int .i64 ab, .int .i64 ac] 24)) 24 ⟨bo, t2, ba, bb, bc⟩).step b3)
        simp only [World.size_alloc] at IX1
        replace IX1 : Hid (Box5 (((w.alloc (.cells #[.int .i64 ao, .int .i64 ba, .int .i64 aa, .int .i64 ab, .int .i64 ac] 24)).alloc (.cells #[.int .i64 bo, .int .i64 t2, .int .i64 ba, .int .i64 bb, .int .i64 bc] 24)).alloc (.cells #[.int .i64 0, .int .i64 0, .int .i64 0, .int .i64 0, .int .i64 0] 24)) (w.heap.size + 1) 24 ⟨bo, t2, ba, bb, bc⟩) := hide IX1
        have RX := (Box5.new ((w.alloc (.cells #[.int .i64 ao, .int .i64 ba, .int .i64 aa, .int .i64 ab, .int .i64 ac] 24)).alloc (.cells #[.int .i64 bo, .int .i64 t2, .int .i64 ba, .int .i64 bb, .int .i64 bc] 24)) 24 ⟨0, 0, 0, 0, 0⟩)
        simp only [World.size_alloc] at RX
        replace RX : Hid (Box5 (((w.alloc (.cells #[.int .i64 ao, .int .i64 ba, .int .i64 aa, .int .i64 ab, .int .i64 ac] 24)).alloc (.cells #[.int .i64 bo, .int .i64 t2, .int .i64 ba, .int .i64 bb, .int .i64 bc] 24)).alloc (.cells #[.int .i64 0, .int .i64 0, .int .i64 0, .int .i64 0, .int .i64 0] 24)) (w.heap.size + 1 + 1) 24 ⟨0, 0, 0, 0, 0⟩) := hide RX
        have HB := hide ((b1.trans (b2.mono b1.size)).trans (b3.mono (b1.trans (b2.mono b1.size)).size))
        clear b1 b2 b3
        generalize ((w.alloc (.cells #[.int .i64 ao, .int .i64 ba, .int .i64 aa, .int .i64 ab, .int .i64 ac] 24)).alloc (.cells #[.int .i64 bo, .int .i64 t2, .int .i64 ba, .int .i64 bb, .int .i64 bc] 24)).alloc (.cells #[.int .i64 0, .int .i64 0, .int .i64 0, .int .i64 0, .int .i64 0] 24) = w1 at *
        obtain ⟨R, hR⟩ : ∃ B, B = w.heap.size + 1 + 1 := ⟨_, rfl⟩
        have ZR := hide hR
        try rw [show w.heap.size + 2 = w.heap.size + 1 + 1 from rfl]
        rw [← hR] at RX ⊢
        clear hR
        obtain ⟨B1, hB1⟩ : ∃ B, B = w.heap.size + 1 := ⟨_, rfl⟩
        have ZB1 := hide hB1
        rw [← hB1] at IX1 ⊢
        clear hB1
        obtain ⟨B0, hB0⟩ : ∃ B, B = w.heap.size := ⟨_, rfl⟩
        have ZB0 := hide hB0
        rw [← hB0] at IX0 ⊢
        clear hB0
        have k0 := IX0.out.cells.cell0
        have k1 := IX0.out.cells.cell1
        have k2 := IX0.out.cells.cell2
        have k3 := IX0.out.cells.cell3
        have k4 := IX0.out.cells.cell4
        simp only [Nat.zero_add] at k1 k2 k3 k4
        have l0 := IX1.out.cells.cell0
        have l1 := IX1.out.cells.cell1
        have l2 := IX1.out.cells.cell2
        have l3 := IX1.out.cells.cell3
        have l4 := IX1.out.cells.cell4
        simp only [Nat.zero_add] at l1 l2 l3 l4
        have q0 := RX.out.cells.cell0
        have q1 := RX.out.cells.cell1
        have q2 := RX.out.cells.cell2
        have q3 := RX.out.cells.cell3
        have q4 := RX.out.cells.cell4
        simp only [Nat.zero_add] at q1 q2 q3 q4
        have f0 := RX.out.free 0
        have f1 := RX.out.free 1
        have f2 := RX.out.free 2
        have f3 := RX.out.free 3
        have f4 := RX.out.free 4
        go_wp2
        refine ret_insb rfl R ⟨0, 0, 0, 0, 0⟩ rfl (RX.out.put ⟨0, 0, 0, 0, 0⟩) rfl ⟨by rw [HRES.out]; rfl, ?_⟩
        exact below_put5 HB.out (by have := ZR.out; omega) _ _ _ _ _
    · have HRES : Hid (meI ⟨ao, t1, aa, ab, ac⟩ ⟨bo, t2, ba, bb, bc⟩ = none) := hide (meI_no (by dsimp only; exact fun h => h3 h.2.1))
      have n1 : (bo == 3) = false ∧ (bo == 4) = false := by unfold twoB at h2; simpa using h2
      obtain ⟨n1, n2⟩ := n1
      have n3 : (ba != t1) = true := by simpa using h3
      clear h2 hi hj
      dsimp only
      generalize meI ⟨ao, t1, aa, ab, ac⟩ ⟨bo, t2, ba, bb, bc⟩ = G at *
      go_enter Tryd.func25, Tryd.ntmps25
      go_upto_region 1 with fail
      have b1 := below_alloc w (.cells #[.int .i64 ao, .int .i64 t1, .int .i64 aa, .int .i64 ab, .int .i64 ac] 24)
      have b2 := below_alloc (w.alloc (.cells #[.int .i64 ao, .int .i64 t1, .int .i64 aa, .int .i64 ab, .int .i64 ac] 24)) (.cells #[.int .i64 bo, .int .i64 t2, .int .i64 ba, .int .i64 bb, .int .i64 bc] 24)
      have b3 := below_alloc ((w.alloc (.cells #[.int .i64 ao, .int .i64 t1, .int .i64 aa, .int .i64 ab, .int .i64 ac] 24)).alloc (.cells #[.int .i64 bo, .int .i64 t2, .int .i64 ba, .int .i64 bb, .int .i64 bc] 24)) (.cells #[.int .i64 0, .int .i64 0, .int .i64 0, .int .i64 0, .int .i64 0] 24)
      have IX0 := (((Box5.new w 24 ⟨ao, t1, aa, ab, ac⟩).step b2).step b3)
      replace IX0 : Hid (Box5 (((w.alloc (.cells #[.int .i64 ao, .int .i64 t1, .int .i64 aa, .int .i64 ab, .int .i64 ac] 24)).alloc (.cells #[.int .i64 bo, .int .i64 t2, .int .i64 ba, .int .i64 bb, .int .i64 bc] 24)).alloc (.cells #[.int .i64 0, .int .i64 0, .int .i64 0, .int .i64 0, .int .i64 0] 24)) (w.heap.size) 24 ⟨ao, t1, aa, ab, ac⟩) := hide IX0
      have IX1 := ((Box5.new (w.alloc (.cells #[.int .i64 ao, .int .i64 t1, .int .i64 aa, .int .i64 ab, .int .i64 ac] 24)) 24 ⟨bo, t2, ba, bb, bc⟩).step b3)
      simp only [World.size_alloc] at IX1
      replace IX1 : Hid (Box5 (((w.alloc (.cells #[.int .i64 ao, .int .i64 t1, .int .i64 aa, .int .i64 ab, .int .i64 ac] 24)).alloc (.cells #[.int .i64 bo, .int .i64 t2, .int .i64 ba, .int .i64 bb, .int .i64 bc] 24)).alloc (.cells #[.int .i64 0, .int .i64 0, .int .i64 0, .int .i64 0, .int .i64 0] 24)) (w.heap.size + 1) 24 ⟨bo, t2, ba, bb, bc⟩) := hide IX1
      have RX := (Box5.new ((w.alloc (.cells #[.int .i64 ao, .int .i64 t1, .int .i64 aa, .int .i64 ab, .int .i64 ac] 24)).alloc (.cells #[.int .i64 bo, .int .i64 t2, .int .i64 ba, .int .i64 bb, .int .i64 bc] 24)) 24 ⟨0, 0, 0, 0, 0⟩)
      simp only [World.size_alloc] at RX
      replace RX : Hid (Box5 (((w.alloc (.cells #[.int .i64 ao, .int .i64 t1, .int .i64 aa, .int .i64 ab, .int .i64 ac] 24)).alloc (.cells #[.int .i64 bo, .int .i64 t2, .int .i64 ba, .int .i64 bb, .int .i64 bc] 24)).alloc (.cells #[.int .i64 0, .int .i64 0, .int .i64 0, .int .i64 0, .int .i64 0] 24)) (w.heap.size + 1 + 1) 24 ⟨0, 0, 0, 0, 0⟩) := hide RX
      have HB := hide ((b1.trans (b2.mono b1.size)).trans (b3.mono (b1.trans (b2.mono b1.size)).size))
      clear b1 b2 b3
      generalize ((w.alloc (.cells #[.int .i64 ao, .int .i64 t1, .int .i64 aa, .int .i64 ab, .int .i64 ac] 24)).alloc (.cells #[.int .i64 bo, .int .i64 t2, .int .i64 ba, .int .i64 bb, .int .i64 bc] 24)).alloc (.cells #[.int .i64 0, .int .i64 0, .int .i64 0, .int .i64 0, .int .i64 0] 24) = w1 at *
      obtain ⟨R, hR⟩ : ∃ B, B = w.heap.size + 1 + 1 := ⟨_, rfl⟩
      have ZR := hide hR
      try rw [show w.heap.size + 2 = w.heap.size + 1 + 1 from rfl]
      rw [← hR] at RX ⊢
      clear hR
      obtain ⟨B1, hB1⟩ : ∃ B, B = w.heap.size + 1 := ⟨_, rfl⟩
      have ZB1 := hide hB1
      rw [← hB1] at IX1 ⊢
      clear hB1
      obtain ⟨B0, hB0⟩ : ∃ B, B = w.heap.size := ⟨_, rfl⟩
      have ZB0 := hide hB0
      rw [← hB0] at IX0 ⊢
      clear hB0
      have k0 := IX0.out.cells.cell0
      have k1 := IX0.out.cells.cell1
      have k2 := IX0.out.cells.cell2
      have k3 := IX0.out.cells.cell3
      have k4 := IX0.out.cells.cell4
      simp only [Nat.zero_add] at k1 k2 k3 k4
      have l0 := IX1.out.cells.cell0
      have l1 := IX1.out.cells.cell1
      have l2 := IX1.out.cells.cell2
      have l3 := IX1.out.cells.cell3
      have l4 := IX1.out.cells.cell4
      simp only [Nat.zero_add] at l1 l2 l3 l4
      have q0 := RX.out.cells.cell0
      have q1 := RX.out.cells.cell1
      have q2 := RX.out.cells.cell2
      have q3 := RX.out.cells.cell3
      have q4 := RX.out.cells.cell4
      simp only [Nat.zero_add] at q1 q2 q3 q4
      have f0 := RX.out.free 0
      have f1 := RX.out.free 1
      have f2 := RX.out.free 2
      have f3 := RX.out.free 3
      have f4 := RX.out.free 4
      go_wp2
      refine ret_insb rfl R ⟨0, 0, 0, 0, 0⟩ rfl (RX.out.put ⟨0, 0, 0, 0, 0⟩) rfl ⟨by rw [HRES.out]; rfl, ?_⟩
      exact below_put5 HB.out (by have := ZR.out; omega) _ _ _ _ _
end Go.Proofs.YtlghhpgnhppoeaaDoor
