/- fold.withLast: what comes of a list's last instruction and another one. -/
import Derived.Test.YtgkpdeabcijokaaDoorFoMe
namespace Go.Proofs.YtgkpdeabcijokaaDoor
open Go.RowKit

set_option maxRecDepth 100000 in
set_option maxHeartbeats 8000000 in
theorem withLast_nil (ad : Option Addr) (cap : Nat) (j : Ins) (w : World) :
    Calls Tryd.prog 25 #[.slice ad 0 cap, .agg #[.int .i64 j.op, .int .i64 j.to, .int .i64 j.a, .int .i64 j.b, .int .i64 j.c]] w fun e w' => e = mlE none ∧ Below w.heap.size w w' := by
  obtain ⟨bo, t2, ba, bb, bc⟩ := j
  dsimp only
  go_enter Tryd.func25, Tryd.ntmps25
  go_upto_region 1 with fail
  have b1 := below_alloc w (.cells #[.int .i64 bo, .int .i64 t2, .int .i64 ba, .int .i64 bb, .int .i64 bc] 24)
  have b2 := below_alloc (w.alloc (.cells #[.int .i64 bo, .int .i64 t2, .int .i64 ba, .int .i64 bb, .int .i64 bc] 24)) (.cells #[.int .i64 0, .int .i64 0, .int .i64 0, .int .i64 0, .int .i64 0] 24)
  have IX0 := ((Box5.new w 24 ⟨bo, t2, ba, bb, bc⟩).step b2)
  replace IX0 : Hid (Box5 ((w.alloc (.cells #[.int .i64 bo, .int .i64 t2, .int .i64 ba, .int .i64 bb, .int .i64 bc] 24)).alloc (.cells #[.int .i64 0, .int .i64 0, .int .i64 0, .int .i64 0, .int .i64 0] 24)) (w.heap.size) 24 ⟨bo, t2, ba, bb, bc⟩) := hide IX0
  have RX := (Box5.new (w.alloc (.cells #[.int .i64 bo, .int .i64 t2, .int .i64 ba, .int .i64 bb, .int .i64 bc] 24)) 24 ⟨0, 0, 0, 0, 0⟩)
  simp only [World.size_alloc] at RX
  replace RX : Hid (Box5 ((w.alloc (.cells #[.int .i64 bo, .int .i64 t2, .int .i64 ba, .int .i64 bb, .int .i64 bc] 24)).alloc (.cells #[.int .i64 0, .int .i64 0, .int .i64 0, .int .i64 0, .int .i64 0] 24)) (w.heap.size + 1) 24 ⟨0, 0, 0, 0, 0⟩) := hide RX
  have HB := hide (b1.trans (b2.mono b1.size))
  clear b1 b2
  generalize (w.alloc (.cells #[.int .i64 bo, .int .i64 t2, .int .i64 ba, .int .i64 bb, .int .i64 bc] 24)).alloc (.cells #[.int .i64 0, .int .i64 0, .int .i64 0, .int .i64 0, .int .i64 0] 24) = w1 at *
  obtain ⟨R, hR⟩ : ∃ B, B = w.heap.size + 1 := ⟨_, rfl⟩
  have ZR := hide hR
  rw [← hR] at RX ⊢
  clear hR
  obtain ⟨B0, hB0⟩ : ∃ B, B = w.heap.size := ⟨_, rfl⟩
  have ZB0 := hide hB0
  rw [← hB0] at IX0 ⊢
  clear hB0
  have k0 := IX0.out.cells.cell0
  have k1 := IX0.out.cells.cell1
  have k2 := IX0.out.cells.cell2
  have k3 := IX0.out.cells.cell3
  have k4 := IX0.out.cells.cell4
  simp only [Nat.zero_add] at k1 k2 k3 k4
  have q0 := RX.out.cells.cell0
  have q1 := RX.out.cells.cell1
  have q2 := RX.out.cells.cell2
  have q3 := RX.out.cells.cell3
  have q4 := RX.out.cells.cell4
  simp only [Nat.zero_add] at q1 q2 q3 q4
  have f0 := RX.out.free 0
  have f1 := RX.out.free 1
  have f2 := RX.out.free 2
  have f3 := RX.out.free 3
  have f4 := RX.out.free 4
  go_wp2
  refine ret_insb rfl R ⟨0, 0, 0, 0, 0⟩ rfl (RX.out.put ⟨0, 0, 0, 0, 0⟩) rfl ⟨rfl, ?_⟩
  exact below_put5 HB.out (by have := ZR.out; omega) _ _ _ _ _
set_option maxRecDepth 100000 in
set_option maxHeartbeats 8000000 in
theorem withLast_any (g off m cap : Nat) (i j : Ins) (w : World) (hm : m < 1000000) (hc : InsC w g (off + m * 5) i) (hi : mayB i 128 = true) (hj : mayB j 128 = true) (hT : TabW64 w) :
    Calls Tryd.prog 25 #[.slice (some ⟨g, off, none⟩) (m + 1) cap, .agg #[.int .i64 j.op, .int .i64 j.to, .int .i64 j.a, .int .i64 j.b, .int .i64 j.c]] w fun e w' => e = mlE (meI i j) ∧ Below w.heap.size w w' := by
  have HI := hide hi
  have HJ := hide hj
  have HT := hide hT
  have HC := hide hc
  clear hi hj hT hc
  obtain ⟨ao, t1, aa, ab, ac⟩ := i
  obtain ⟨bo, t2, ba, bb, bc⟩ := j
  dsimp only
  generalize hM : meI ⟨ao, t1, aa, ab, ac⟩ ⟨bo, t2, ba, bb, bc⟩ = M
  have HM := hide hM
  clear hM
  go_enter Tryd.func25, Tryd.ntmps25
  go_upto_region 1 with fail
  have b1 := below_alloc w (.cells #[.int .i64 bo, .int .i64 t2, .int .i64 ba, .int .i64 bb, .int .i64 bc] 24)
  have b2 := below_alloc (w.alloc (.cells #[.int .i64 bo, .int .i64 t2, .int .i64 ba, .int .i64 bb, .int .i64 bc] 24)) (.cells #[.int .i64 0, .int .i64 0, .int .i64 0, .int .i64 0, .int .i64 0] 24)
  have IX0 := ((Box5.new w 24 ⟨bo, t2, ba, bb, bc⟩).step b2)
  replace IX0 : Hid (Box5 ((w.alloc (.cells #[.int .i64 bo, .int .i64 t2, .int .i64 ba, .int .i64 bb, .int .i64 bc] 24)).alloc (.cells #[.int .i64 0, .int .i64 0, .int .i64 0, .int .i64 0, .int .i64 0] 24)) (w.heap.size) 24 ⟨bo, t2, ba, bb, bc⟩) := hide IX0
  have RX := (Box5.new (w.alloc (.cells #[.int .i64 bo, .int .i64 t2, .int .i64 ba, .int .i64 bb, .int .i64 bc] 24)) 24 ⟨0, 0, 0, 0, 0⟩)
  simp only [World.size_alloc] at RX
  replace RX : Hid (Box5 ((w.alloc (.cells #[.int .i64 bo, .int .i64 t2, .int .i64 ba, .int .i64 bb, .int .i64 bc] 24)).alloc (.cells #[.int .i64 0, .int .i64 0, .int .i64 0, .int .i64 0, .int .i64 0] 24)) (w.heap.size + 1) 24 ⟨0, 0, 0, 0, 0⟩) := hide RX
  have HB := hide (b1.trans (b2.mono b1.size))
  replace HC := hide ((HC.out.step b1).step b2)
  replace HT := hide ((HT.out.below b1).below b2)
  clear b1 b2
  generalize (w.alloc (.cells #[.int .i64 bo, .int .i64 t2, .int .i64 ba, .int .i64 bb, .int .i64 bc] 24)).alloc (.cells #[.int .i64 0, .int .i64 0, .int .i64 0, .int .i64 0, .int .i64 0] 24) = w1 at *
  obtain ⟨R, hR⟩ : ∃ B, B = w.heap.size + 1 := ⟨_, rfl⟩
  have ZR := hide hR
  rw [← hR] at RX ⊢
  clear hR
  obtain ⟨B0, hB0⟩ : ∃ B, B = w.heap.size := ⟨_, rfl⟩
  have ZB0 := hide hB0
  rw [← hB0] at IX0 ⊢
  clear hB0
  have m1 : (((m + 1 : Nat) : Int) == 0) = false := by simp; omega
  have m2 : IntKind.i64.wrap (m : Int) = m := by rw [IntKind.wrap_i64]; omega
  have m3 : (m : Int) < (m : Int) + 1 := by omega
  go_upto_region 3 with fail
  refine wp_calm (fun w' => Below w.heap.size w w' ∧ InsC w' g (off + m * 5) ⟨ao, t1, aa, ab, ac⟩ ∧ Box5 w' B0 24 ⟨bo, t2, ba, bb, bc⟩ ∧ Box5 w' R 24 ⟨0, 0, 0, 0, 0⟩ ∧ TabW64 w') (fun j => j != 10 && j != 11) 12 #[false, false, false, false, false, false, false, false, false, false, false, false] (by kernel_rfl) rfl rfl ?_
  have HF := hide (And.intro (HB.out.drew) (And.intro (HC.out.drew) (And.intro (IX0.out.drew) (And.intro (RX.out.drew) (HT.out.drew)))))
  generalize w1.drew = w1d at *
  refine Calm.takeL 12 (i := 0) (v := ?_) (a' := ?_) (l' := #[true, false, false, false, false, false, false, false, false, false, false, false]) (d := some 10) (by kernel_rfl) rfl (by kernel_rfl) (by kernel_rfl) (by kernel_rfl) (by kernel_rfl) (fun _ _ _ h => h) HF.out rfl ?_ rfl rfl ?_ ?_
  rotate_left
  · intro w' hF; clear hF; go_simp; try rfl
  rotate_left
  · simp only [Act.put]; exact rfl
  refine Calm.takeL 12 (i := 1) (v := ?_) (a' := ?_) (l' := #[true, true, false, false, false, false, false, false, false, false, false, false]) (d := some 11) (by kernel_rfl) rfl (by kernel_rfl) (by kernel_rfl) (by kernel_rfl) (by kernel_rfl) (fun _ _ _ h => h) HF.out rfl ?_ rfl rfl ?_ ?_
  rotate_left
  · intro w' hF; clear hF; go_simp; try rfl
  rotate_left
  · simp only [Act.put]; exact rfl
  refine Calm.takeL 12 (i := 2) (v := ?_) (a' := ?_) (l' := #[true, true, true, false, false, false, false, false, false, false, false, false]) (d := some 12) (by kernel_rfl) rfl (by kernel_rfl) (by kernel_rfl) (by kernel_rfl) (by kernel_rfl) (fun _ _ _ h => h) HF.out rfl ?_ rfl rfl ?_ ?_
  rotate_left
  · intro w' hF; clear hF; go_simp; try rfl
  rotate_left
  · simp only [Act.put]; exact rfl
  refine Calm.takeL 12 (i := 3) (v := ?_) (a' := ?_) (l' := #[true, true, true, true, false, false, false, false, false, false, false, false]) (d := some 13) (by kernel_rfl) rfl (by kernel_rfl) (by kernel_rfl) (by kernel_rfl) (by kernel_rfl) (fun _ _ _ h => h) HF.out rfl ?_ rfl rfl ?_ ?_
  rotate_left
  · intro w' hF; clear hF; go_simp; try rfl
  rotate_left
  · simp only [Act.put]; exact rfl
  refine Calm.takeL 12 (i := 4) (v := ?_) (a' := ?_) (l' := #[true, true, true, true, true, false, false, false, false, false, false, false]) (d := some 14) (by kernel_rfl) rfl (by kernel_rfl) (by kernel_rfl) (by kernel_rfl) (by kernel_rfl) (fun _ _ _ h => h) HF.out rfl ?_ rfl rfl ?_ ?_
  rotate_left
  · intro w' hF; clear hF; go_simp; try rfl
  rotate_left
  · simp only [Act.put]; exact rfl
  refine Calm.takeL 12 (i := 5) (v := ?_) (a' := ?_) (l' := #[true, true, true, true, true, true, false, false, false, false, false, false]) (d := some 15) (by kernel_rfl) rfl (by kernel_rfl) (by kernel_rfl) (by kernel_rfl) (by kernel_rfl) (fun _ _ _ h => h) HF.out rfl ?_ rfl rfl ?_ ?_
  rotate_left
  · intro w' hF; have f10 := hF.2.1.cell0; have f11 := hF.2.1.cell1; have f12 := hF.2.1.cell2; have f13 := hF.2.1.cell3; have f14 := hF.2.1.cell4; have f20 := hF.2.2.1.cells.cell0; have f21 := hF.2.2.1.cells.cell1; have f22 := hF.2.2.1.cells.cell2; have f23 := hF.2.2.1.cells.cell3; have f24 := hF.2.2.1.cells.cell4; simp only [Nat.zero_add] at f21 f22 f23 f24; have f30 := hF.2.2.2.1.cells.cell0; have f31 := hF.2.2.2.1.cells.cell1; have f32 := hF.2.2.2.1.cells.cell2; have f33 := hF.2.2.2.1.cells.cell3; have f34 := hF.2.2.2.1.cells.cell4; simp only [Nat.zero_add] at f31 f32 f33 f34; clear hF; go_simp; try rfl
  rotate_left
  · simp only [Act.put]; exact rfl
  refine Calm.takeL 12 (i := 6) (v := ?_) (a' := ?_) (l' := #[true, true, true, true, true, true, true, false, false, false, false, false]) (d := some 16) (by kernel_rfl) rfl (by kernel_rfl) (by kernel_rfl) (by kernel_rfl) (by kernel_rfl) (fun _ _ _ h => h) HF.out rfl ?_ rfl rfl ?_ ?_
  rotate_left
  · intro w' hF; have f10 := hF.2.1.cell0; have f11 := hF.2.1.cell1; have f12 := hF.2.1.cell2; have f13 := hF.2.1.cell3; have f14 := hF.2.1.cell4; have f20 := hF.2.2.1.cells.cell0; have f21 := hF.2.2.1.cells.cell1; have f22 := hF.2.2.1.cells.cell2; have f23 := hF.2.2.1.cells.cell3; have f24 := hF.2.2.1.cells.cell4; simp only [Nat.zero_add] at f21 f22 f23 f24; have f30 := hF.2.2.2.1.cells.cell0; have f31 := hF.2.2.2.1.cells.cell1; have f32 := hF.2.2.2.1.cells.cell2; have f33 := hF.2.2.2.1.cells.cell3; have f34 := hF.2.2.2.1.cells.cell4; simp only [Nat.zero_add] at f31 f32 f33 f34; clear hF; go_simp; try rfl
  rotate_left
  · simp only [Act.put]; exact rfl
  refine Calm.one (i := 7) (l' := #[true, true, true, true, true, true, true, true, false, false, false, false]) (by kernel_rfl) rfl rfl rfl fun K hK => ?_
  go_simp
  refine (melted_any ⟨ao, t1, aa, ab, ac⟩ ⟨bo, t2, ba, bb, bc⟩ _ HI.out HJ.out HF.out.2.2.2.2).mono ?_
  rintro e u1 ⟨rfl, hb⟩
  rw [HM.out]
  unfold mlE
  have HF' := hide (And.intro (HF.out.1.trans ((hb).mono HF.out.1.size)) (And.intro (HF.out.2.1.step (hb)) (And.intro (HF.out.2.2.1.step (hb)) (And.intro (HF.out.2.2.2.1.step (hb)) (HF.out.2.2.2.2.below (hb))))))
  refine hK _ _ (fun _ => HF'.out) ?_
  clear hK K HF hb
  have HF := hide HF'.out
  clear HF'
  refine Calm.takeL 12 (i := 8) (v := ?_) (a' := ?_) (l' := #[true, true, true, true, true, true, true, true, true, false, false, false]) (d := some 18) (by kernel_rfl) rfl (by kernel_rfl) (by kernel_rfl) (by kernel_rfl) (by kernel_rfl) (fun _ _ _ h => h) HF.out rfl ?_ rfl rfl ?_ ?_
  rotate_left
  · intro w' hF; clear hF; go_simp; try rfl
  rotate_left
  · simp only [Act.put]; exact rfl
  refine Calm.takeL 12 (i := 9) (v := ?_) (a' := ?_) (l' := #[true, true, true, true, true, true, true, true, true, true, false, false]) (d := some 19) (by kernel_rfl) rfl (by kernel_rfl) (by kernel_rfl) (by kernel_rfl) (by kernel_rfl) (fun _ _ _ h => h) HF.out rfl ?_ rfl rfl ?_ ?_
  rotate_left
  · intro w' hF; clear hF; go_simp; try rfl
  rotate_left
  · simp only [Act.put]; exact rfl
  refine Calm.one (i := 10) (l' := #[true, true, true, true, true, true, true, true, true, true, true, false]) (by kernel_rfl) rfl rfl rfl fun K hK => ?_
  have RX := hide HF.out.2.2.2.1
  have HW := hide HF.out.1
  have r0 := RX.out.cells.cell0
  have r1 := RX.out.cells.cell1
  have r2 := RX.out.cells.cell2
  have r3 := RX.out.cells.cell3
  have r4 := RX.out.cells.cell4
  simp only [Nat.zero_add] at r1 r2 r3 r4
  have f0 := RX.out.free 0
  have f1 := RX.out.free 1
  have f2 := RX.out.free 2
  have f3 := RX.out.free 3
  have f4 := RX.out.free 4
  go_simp
  refine hK _ _ (fun h => absurd h (by decide)) ?_
  clear hK K
  refine Calm.one (i := 11) (l' := #[true, true, true, true, true, true, true, true, true, true, true, true]) (by kernel_rfl) rfl rfl rfl fun K hK => ?_
  go_simp
  refine hK _ _ (fun h => absurd h (by decide)) ?_
  clear hK K
  refine Calm.done (by kernel_rfl) ?_
  clear r0 r1 r2 r3 r4 f0 f1 f2 f3 f4
  go_wp2
  refine ret_insb rfl R (mlV M) rfl (RX.out.put (mlV M)) rfl ⟨rfl, ?_⟩
  exact below_put5 HW.out (by have := ZR.out; omega) _ _ _ _ _
end Go.Proofs.YtgkpdeabcijokaaDoor
