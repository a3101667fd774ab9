/- fold.melted, withLast: what two instructions come to. -/
import Derived.Test.YtgkpdeabcijokaaDoorFoTg
import Derived.Test.YtgkpdeabcijokaaDoorPgRSame
import Derived.Test.YtgkpdeabcijokaaDoorCalmL
namespace Go.Proofs.YtgkpdeabcijokaaDoor
open Go.RowKit

theorem asks_one {j : Ins} (hj : mayB j 128 = true) : (asksL j).length = if twoB j.op = true then 2 else 1 := by
  rw [may_iff] at hj
  unfold asksL twoB
  by_cases h : j.op = 3 ∨ j.op = 4
  · rw [if_pos h, if_pos (by simpa using h)]; rfl
  · rw [if_neg h, if_pos (by omega), if_neg (by simpa using h)]; rfl
/-- the program's answer to 'do they melt?' -/
def mlE (m : Option Ins) : Ending := .returned (.tuple #[.agg #[.int .i64 (mlV m).op, .int .i64 (mlV m).to, .int .i64 (mlV m).a, .int .i64 (mlV m).b, .int .i64 (mlV m).c], .bool m.isSome])
set_option maxRecDepth 100000 in
set_option maxHeartbeats 8000000 in
theorem melted_any (i j : Ins) (w : World) (hi : mayB i 128 = true) (hj : mayB j 128 = true) (hT : TabW64 w) :
    Calls Tryd.prog 13 #[.agg #[.int .i64 i.op, .int .i64 i.to, .int .i64 i.a, .int .i64 i.b, .int .i64 i.c], .agg #[.int .i64 j.op, .int .i64 j.to, .int .i64 j.a, .int .i64 j.b, .int .i64 j.c]] w fun e w' => e = mlE (meI i j) ∧ Below w.heap.size w w' := by
  have HI := hide hi
  have HJ := hide hj
  have HT := hide hT
  have HN := hide (asks_one hj)
  clear hi hj hT
  obtain ⟨ao, t1, aa, ab, ac⟩ := i
  obtain ⟨bo, t2, ba, bb, bc⟩ := j
  dsimp only at HN ⊢
  generalize hM : meI ⟨ao, t1, aa, ab, ac⟩ ⟨bo, t2, ba, bb, bc⟩ = M
  have HM := hide hM
  clear hM
  go_enter Tryd.func13, Tryd.ntmps13
  go_upto_region 1 with fail
  have b1 := below_alloc w (.cells #[.int .i64 ao, .int .i64 t1, .int .i64 aa, .int .i64 ab, .int .i64 ac] 24)
  have b2 := below_alloc (w.alloc (.cells #[.int .i64 ao, .int .i64 t1, .int .i64 aa, .int .i64 ab, .int .i64 ac] 24)) (.cells #[.int .i64 bo, .int .i64 t2, .int .i64 ba, .int .i64 bb, .int .i64 bc] 24)
  have b3 := below_alloc ((w.alloc (.cells #[.int .i64 ao, .int .i64 t1, .int .i64 aa, .int .i64 ab, .int .i64 ac] 24)).alloc (.cells #[.int .i64 bo, .int .i64 t2, .int .i64 ba, .int .i64 bb, .int .i64 bc] 24)) (.cells #[.int .i64 0, .int .i64 0, .int .i64 0, .int .i64 0, .int .i64 0] 24)
  have IX0 := (((Box5.new w 24 ⟨ao, t1, aa, ab, ac⟩).step b2).step b3)
  replace IX0 : Hid (Box5 (((w.alloc (.cells #[.int .i64 ao, .int .i64 t1, .int .i64 aa, .int .i64 ab, .int .i64 ac] 24)).alloc (.cells #[.int .i64 bo, .int .i64 t2, .int .i64 ba, .int .i64 bb, .int .i64 bc] 24)).alloc (.cells #[.int .i64 0, .int .i64 0, .int .i64 0, .int .i64 0, .int .i64 0] 24)) (w.heap.size) 24 ⟨ao, t1, aa, ab, ac⟩) := hide IX0
  have IX1 := ((Box5.new (w.alloc (.cells #[.int .i64 ao, .int .i64 t1, .int .i64 aa, .int .i64 ab, .int .i64 ac] 24)) 24 ⟨bo, t2, ba, bb, bc⟩).step b3)
  simp only [World.size_alloc] at IX1
  replace IX1 : Hid (Box5 (((w.alloc (.cells #[.int .i64 ao, .int .i64 t1, .int .i64 aa, .int .i64 ab, .int .i64 ac] 24)).alloc (.cells #[.int .i64 bo, .int .i64 t2, .int .i64 ba, .int .i64 bb, .int .i64 bc] 24)).alloc (.cells #[.int .i64 0, .int .i64 0, .int .i64 0, .int .i64 0, .int .i64 0] 24)) (w.heap.size + 1) 24 ⟨bo, t2, ba, bb, bc⟩) := hide IX1
  have RX := (Box5.new ((w.alloc (.cells #[.int .i64 ao, .int .i64 t1, .int .i64 aa, .int .i64 ab, .int .i64 ac] 24)).alloc (.cells #[.int .i64 bo, .int .i64 t2, .int .i64 ba, .int .i64 bb, .int .i64 bc] 24)) 24 ⟨0, 0, 0, 0, 0⟩)
  simp only [World.size_alloc] at RX
  replace RX : Hid (Box5 (((w.alloc (.cells #[.int .i64 ao, .int .i64 t1, .int .i64 aa, .int .i64 ab, .int .i64 ac] 24)).alloc (.cells #[.int .i64 bo, .int .i64 t2, .int .i64 ba, .int .i64 bb, .int .i64 bc] 24)).alloc (.cells #[.int .i64 0, .int .i64 0, .int .i64 0, .int .i64 0, .int .i64 0] 24)) (w.heap.size + 1 + 1) 24 ⟨0, 0, 0, 0, 0⟩) := hide RX
  have HB := hide ((b1.trans (b2.mono b1.size)).trans (b3.mono (b1.trans (b2.mono b1.size)).size))
  replace HT := hide (((HT.out.below b1).below b2).below b3)
  clear b1 b2 b3
  generalize ((w.alloc (.cells #[.int .i64 ao, .int .i64 t1, .int .i64 aa, .int .i64 ab, .int .i64 ac] 24)).alloc (.cells #[.int .i64 bo, .int .i64 t2, .int .i64 ba, .int .i64 bb, .int .i64 bc] 24)).alloc (.cells #[.int .i64 0, .int .i64 0, .int .i64 0, .int .i64 0, .int .i64 0] 24) = w1 at *
  obtain ⟨R, hR⟩ : ∃ B, B = w.heap.size + 1 + 1 := ⟨_, rfl⟩
  have ZR := hide hR
  try rw [show w.heap.size + 2 = w.heap.size + 1 + 1 from rfl]
  rw [← hR] at RX ⊢
  clear hR
  obtain ⟨B1, hB1⟩ : ∃ B, B = w.heap.size + 1 := ⟨_, rfl⟩
  have ZB1 := hide hB1
  rw [← hB1] at IX1 ⊢
  clear hB1
  obtain ⟨B0, hB0⟩ : ∃ B, B = w.heap.size := ⟨_, rfl⟩
  have ZB0 := hide hB0
  rw [← hB0] at IX0 ⊢
  clear hB0
  have k0 := IX0.out.cells.cell0
  have k1 := IX0.out.cells.cell1
  have k2 := IX0.out.cells.cell2
  have k3 := IX0.out.cells.cell3
  have k4 := IX0.out.cells.cell4
  simp only [Nat.zero_add] at k1 k2 k3 k4
  have l0 := IX1.out.cells.cell0
  have l1 := IX1.out.cells.cell1
  have l2 := IX1.out.cells.cell2
  have l3 := IX1.out.cells.cell3
  have l4 := IX1.out.cells.cell4
  simp only [Nat.zero_add] at l1 l2 l3 l4
  have q0 := RX.out.cells.cell0
  have q1 := RX.out.cells.cell1
  have q2 := RX.out.cells.cell2
  have q3 := RX.out.cells.cell3
  have q4 := RX.out.cells.cell4
  simp only [Nat.zero_add] at q1 q2 q3 q4
  have f0 := RX.out.free 0
  have f1 := RX.out.free 1
  have f2 := RX.out.free 2
  have f3 := RX.out.free 3
  have f4 := RX.out.free 4
  go_wp2_with fail
  refine (asks_any ⟨bo, t2, ba, bb, bc⟩ _).mono ?_
  rintro e w2 ⟨⟨v, rfl, a, cap, rfl, _, _, _⟩, hb⟩
  replace IX0 := hide (IX0.out.step hb)
  replace IX1 := hide (IX1.out.step hb)
  replace RX := hide (RX.out.step hb)
  replace HT := hide (HT.out.below hb)
  replace HB := hide (HB.out.trans (hb.mono HB.out.size))
  clear k0 k1 k2 k3 k4 l0 l1 l2 l3 l4 q0 q1 q2 q3 q4 f0 f1 f2 f3 f4 hb
  rw [HN.out]
  have k0 := IX0.out.cells.cell0
  have k1 := IX0.out.cells.cell1
  have k2 := IX0.out.cells.cell2
  have k3 := IX0.out.cells.cell3
  have k4 := IX0.out.cells.cell4
  simp only [Nat.zero_add] at k1 k2 k3 k4
  have l0 := IX1.out.cells.cell0
  have l1 := IX1.out.cells.cell1
  have l2 := IX1.out.cells.cell2
  have l3 := IX1.out.cells.cell3
  have l4 := IX1.out.cells.cell4
  simp only [Nat.zero_add] at l1 l2 l3 l4
  have q0 := RX.out.cells.cell0
  have q1 := RX.out.cells.cell1
  have q2 := RX.out.cells.cell2
  have q3 := RX.out.cells.cell3
  have q4 := RX.out.cells.cell4
  simp only [Nat.zero_add] at q1 q2 q3 q4
  have f0 := RX.out.free 0
  have f1 := RX.out.free 1
  have f2 := RX.out.free 2
  have f3 := RX.out.free 3
  have f4 := RX.out.free 4
  by_cases c1 : twoB bo = true
  · rw [if_pos c1]
    have e := HM.out
    rw [meI_no (by dsimp only; intro h; rw [c1] at h; exact absurd h.1 (by decide))] at e
    subst e
    go_wp2
    refine ret_insb rfl R ⟨0, 0, 0, 0, 0⟩ rfl (RX.out.put ⟨0, 0, 0, 0, 0⟩) rfl ⟨rfl, ?_⟩
    exact below_put5 HB.out (by have := ZR.out; omega) _ _ _ _ _
  rw [if_neg c1]
  by_cases c2 : ba = t1
  · by_cases c3 : t2 = t1
    · have C := hide (show twoB bo = false by simpa using c1)
      clear c1
      subst c2
      subst c3
      go_wp2_with fail
      refine (together_any _ _ _ HI.out HJ.out).mono ?_
      rintro e w3 ⟨⟨o, z, ok, rfl, ht⟩, hb⟩
      replace IX0 := hide (IX0.out.step hb)
      replace IX1 := hide (IX1.out.step hb)
      replace RX := hide (RX.out.step hb)
      replace HT := hide (HT.out.below hb)
      replace HB := hide (HB.out.trans (hb.mono HB.out.size))
      clear k0 k1 k2 k3 k4 l0 l1 l2 l3 l4 q0 q1 q2 q3 q4 f0 f1 f2 f3 f4 hb
      have k0 := IX0.out.cells.cell0
      have k1 := IX0.out.cells.cell1
      have k2 := IX0.out.cells.cell2
      have k3 := IX0.out.cells.cell3
      have k4 := IX0.out.cells.cell4
      simp only [Nat.zero_add] at k1 k2 k3 k4
      have l0 := IX1.out.cells.cell0
      have l1 := IX1.out.cells.cell1
      have l2 := IX1.out.cells.cell2
      have l3 := IX1.out.cells.cell3
      have l4 := IX1.out.cells.cell4
      simp only [Nat.zero_add] at l1 l2 l3 l4
      have q0 := RX.out.cells.cell0
      have q1 := RX.out.cells.cell1
      have q2 := RX.out.cells.cell2
      have q3 := RX.out.cells.cell3
      have q4 := RX.out.cells.cell4
      simp only [Nat.zero_add] at q1 q2 q3 q4
      have f0 := RX.out.free 0
      have f1 := RX.out.free 1
      have f2 := RX.out.free 2
      have f3 := RX.out.free 3
      have f4 := RX.out.free 4
      have HG := hide ht
      clear ht
      cases ok with
      | false =>
        have e := HM.out
        rw [meI_none (show tog _ _ _ _ = none from HG.out)] at e
        subst e
        go_wp2
        refine ret_insb rfl R ⟨0, 0, 0, 0, 0⟩ rfl (RX.out.put ⟨0, 0, 0, 0, 0⟩) rfl ⟨rfl, ?_⟩
        exact below_put5 HB.out (by have := ZR.out; omega) _ _ _ _ _
      | true =>
        have e := HM.out
        rw [meI_some (a := ⟨ao, t2, aa, ab, ac⟩) (b := ⟨bo, t2, t2, bb, bc⟩) ⟨C.out, rfl, rfl⟩ (show tog ao ac bo bc = some (o, z) from HG.out)] at e
        have HX := hide (tog_may (a := ⟨ao, t2, aa, ab, ac⟩) (b := ⟨bo, t2, t2, bb, bc⟩) HI.out HJ.out C.out (show tog ao ac bo bc = some (o, z) from HG.out))
        obtain ⟨X, hX⟩ : ∃ X, X = plI ⟨o, t2, aa, 0, z⟩ := ⟨_, rfl⟩
        rw [← hX] at e
        have HX2 := hide hX
        clear hX HM
        subst e
        go_wp2_with fail
        refine (instead_any ⟨ao, t2, aa, ab, ac⟩ o z _).mono ?_
        rintro e w4 ⟨rfl, hb⟩
        replace IX0 := hide (IX0.out.step hb)
        replace IX1 := hide (IX1.out.step hb)
        replace RX := hide (RX.out.step hb)
        replace HT := hide (HT.out.below hb)
        replace HB := hide (HB.out.trans (hb.mono HB.out.size))
        clear k0 k1 k2 k3 k4 l0 l1 l2 l3 l4 q0 q1 q2 q3 q4 f0 f1 f2 f3 f4 hb
        dsimp only
        have k0 := IX0.out.cells.cell0
        have k1 := IX0.out.cells.cell1
        have k2 := IX0.out.cells.cell2
        have k3 := IX0.out.cells.cell3
        have k4 := IX0.out.cells.cell4
        simp only [Nat.zero_add] at k1 k2 k3 k4
        have l0 := IX1.out.cells.cell0
        have l1 := IX1.out.cells.cell1
        have l2 := IX1.out.cells.cell2
        have l3 := IX1.out.cells.cell3
        have l4 := IX1.out.cells.cell4
        simp only [Nat.zero_add] at l1 l2 l3 l4
        have q0 := RX.out.cells.cell0
        have q1 := RX.out.cells.cell1
        have q2 := RX.out.cells.cell2
        have q3 := RX.out.cells.cell3
        have q4 := RX.out.cells.cell4
        simp only [Nat.zero_add] at q1 q2 q3 q4
        have f0 := RX.out.free 0
        have f1 := RX.out.free 1
        have f2 := RX.out.free 2
        have f3 := RX.out.free 3
        have f4 := RX.out.free 4
        go_wp2_with fail
        refine (plain_any ⟨o, t2, aa, 0, z⟩ _ HX.out HT.out).mono ?_
        rintro e w5 ⟨rfl, hb⟩
        rw [← HX2.out]
        replace IX0 := hide (IX0.out.step hb)
        replace IX1 := hide (IX1.out.step hb)
        replace RX := hide (RX.out.step hb)
        replace HB := hide (HB.out.trans (hb.mono HB.out.size))
        clear k0 k1 k2 k3 k4 l0 l1 l2 l3 l4 q0 q1 q2 q3 q4 f0 f1 f2 f3 f4 hb
        have k0 := IX0.out.cells.cell0
        have k1 := IX0.out.cells.cell1
        have k2 := IX0.out.cells.cell2
        have k3 := IX0.out.cells.cell3
        have k4 := IX0.out.cells.cell4
        simp only [Nat.zero_add] at k1 k2 k3 k4
        have l0 := IX1.out.cells.cell0
        have l1 := IX1.out.cells.cell1
        have l2 := IX1.out.cells.cell2
        have l3 := IX1.out.cells.cell3
        have l4 := IX1.out.cells.cell4
        simp only [Nat.zero_add] at l1 l2 l3 l4
        have q0 := RX.out.cells.cell0
        have q1 := RX.out.cells.cell1
        have q2 := RX.out.cells.cell2
        have q3 := RX.out.cells.cell3
        have q4 := RX.out.cells.cell4
        simp only [Nat.zero_add] at q1 q2 q3 q4
        have f0 := RX.out.free 0
        have f1 := RX.out.free 1
        have f2 := RX.out.free 2
        have f3 := RX.out.free 3
        have f4 := RX.out.free 4
        go_wp2
        refine ret_insb rfl R X rfl (RX.out.put X) rfl ⟨rfl, ?_⟩
        exact below_put5 HB.out (by have := ZR.out; omega) _ _ _ _ _
    · skip
      have e := HM.out
      rw [meI_no (by dsimp only; exact fun h => c3 h.2.2)] at e
      subst e
      go_wp2
      refine ret_insb rfl R ⟨0, 0, 0, 0, 0⟩ rfl (RX.out.put ⟨0, 0, 0, 0, 0⟩) rfl ⟨rfl, ?_⟩
      exact below_put5 HB.out (by have := ZR.out; omega) _ _ _ _ _
  · skip
    have e := HM.out
    rw [meI_no (by dsimp only; exact fun h => c2 h.2.1)] at e
    subst e
    go_wp2
    refine ret_insb rfl R ⟨0, 0, 0, 0, 0⟩ rfl (RX.out.put ⟨0, 0, 0, 0, 0⟩) rfl ⟨rfl, ?_⟩
    exact below_put5 HB.out (by have := ZR.out; omega) _ _ _ _ _
end Go.Proofs.YtgkpdeabcijokaaDoor
