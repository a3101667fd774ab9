/- fold.Plain, fold.Melt. -/
import Derived.Test.YtgkpdeabcijokaaDoorFoPs
namespace Go.Proofs.YtgkpdeabcijokaaDoor
open Go.RowKit

/-- what fold.Plain answers -/
def plV (i : Ins) : Ins := if mayB i 128 = true then plI i else ⟨0, 0, 0, 0, 0⟩
theorem Box5.other5 {W : World} {B C : Nat} {t : TypeId} {i : Ins} (h : Box5 W B t i) (hne : C ≠ B) (a b c d e : Value) : Box5 (((((W.setCell ⟨C, 0, none⟩ a).setCell ⟨C, 1, none⟩ b).setCell ⟨C, 2, none⟩ c).setCell ⟨C, 3, none⟩ d).setCell ⟨C, 4, none⟩ e) B t i :=
  ((((h.set_ne hne a).set_ne hne b).set_ne hne c).set_ne hne d).set_ne hne e
def plT (i : Ins) : Bool := mayB i 128 && !eqI (plI i) i
def plE (i : Ins) : Ending := .returned (.tuple #[.agg #[.int .i64 (plV i).op, .int .i64 (plV i).to, .int .i64 (plV i).a, .int .i64 (plV i).b, .int .i64 (plV i).c], .bool (plT i)])
/-- what fold.Melt comes to -/
def meT (i j : Ins) : Option Ins := if plB i = true ∧ plB j = true then meI i j else none
theorem plB_may {i : Ins} (h : plB i = true) : mayB i 128 = true := by unfold plB at h; simp only [Bool.and_eq_true] at h; exact h.1
set_option maxRecDepth 100000 in
set_option maxHeartbeats 8000000 in
theorem Plain_any (i : Ins) (w : World) (hT : TabW64 w) :
    Calls Tryd.prog 6 #[.agg #[.int .i64 i.op, .int .i64 i.to, .int .i64 i.a, .int .i64 i.b, .int .i64 i.c]] w fun e w' => e = plE i ∧ Below w.heap.size w w' := by
  have HT := hide hT
  clear hT
  obtain ⟨op, to, a, b, c⟩ := i
  dsimp only
  cases hm : mayB ⟨op, to, a, b, c⟩ 128 with
  | false =>
    have HMB := hide hm
    have HRES : Hid (plE ⟨op, to, a, b, c⟩ = .returned (.tuple #[.agg #[.int .i64 0, .int .i64 0, .int .i64 0, .int .i64 0, .int .i64 0], .bool false])) := hide (by unfold plE plV plT; rw [hm]; rfl)
    clear hm
    generalize plE ⟨op, to, a, b, c⟩ = RES at *
    go_enter Tryd.func6, Tryd.ntmps6
    go_upto_region 1 with fail
    have b1 := below_alloc w (.cells #[.int .i64 op, .int .i64 to, .int .i64 a, .int .i64 b, .int .i64 c] 24)
    have b2 := below_alloc (w.alloc (.cells #[.int .i64 op, .int .i64 to, .int .i64 a, .int .i64 b, .int .i64 c] 24)) (.cells #[.int .i64 0, .int .i64 0, .int .i64 0, .int .i64 0, .int .i64 0] 24)
    have IX0 := ((Box5.new w 24 ⟨op, to, a, b, c⟩).step b2)
    replace IX0 : Hid (Box5 ((w.alloc (.cells #[.int .i64 op, .int .i64 to, .int .i64 a, .int .i64 b, .int .i64 c] 24)).alloc (.cells #[.int .i64 0, .int .i64 0, .int .i64 0, .int .i64 0, .int .i64 0] 24)) (w.heap.size) 24 ⟨op, to, a, b, c⟩) := hide IX0
    have RX := (Box5.new (w.alloc (.cells #[.int .i64 op, .int .i64 to, .int .i64 a, .int .i64 b, .int .i64 c] 24)) 24 ⟨0, 0, 0, 0, 0⟩)
    simp only [World.size_alloc] at RX
    replace RX : Hid (Box5 ((w.alloc (.cells #[.int .i64 op, .int .i64 to, .int .i64 a, .int .i64 b, .int .i64 c] 24)).alloc (.cells #[.int .i64 0, .int .i64 0, .int .i64 0, .int .i64 0, .int .i64 0] 24)) (w.heap.size + 1) 24 ⟨0, 0, 0, 0, 0⟩) := hide RX
    have HB := hide (b1.trans (b2.mono b1.size))
    replace HT := hide ((HT.out.below b1).below b2)
    clear b1 b2
    generalize (w.alloc (.cells #[.int .i64 op, .int .i64 to, .int .i64 a, .int .i64 b, .int .i64 c] 24)).alloc (.cells #[.int .i64 0, .int .i64 0, .int .i64 0, .int .i64 0, .int .i64 0] 24) = w1 at *
    obtain ⟨R, hR⟩ : ∃ B, B = w.heap.size + 1 := ⟨_, rfl⟩
    have ZR := hide hR
    rw [← hR] at RX ⊢
    clear hR
    obtain ⟨B0, hB0⟩ : ∃ B, B = w.heap.size := ⟨_, rfl⟩
    have ZB0 := hide hB0
    rw [← hB0] at IX0 ⊢
    clear hB0
    have k0 := IX0.out.cells.cell0
    have k1 := IX0.out.cells.cell1
    have k2 := IX0.out.cells.cell2
    have k3 := IX0.out.cells.cell3
    have k4 := IX0.out.cells.cell4
    simp only [Nat.zero_add] at k1 k2 k3 k4
    have q0 := RX.out.cells.cell0
    have q1 := RX.out.cells.cell1
    have q2 := RX.out.cells.cell2
    have q3 := RX.out.cells.cell3
    have q4 := RX.out.cells.cell4
    simp only [Nat.zero_add] at q1 q2 q3 q4
    have f0 := RX.out.free 0
    have f1 := RX.out.free 1
    have f2 := RX.out.free 2
    have f3 := RX.out.free 3
    have f4 := RX.out.free 4
    go_wp2_with fail
    refine (fmay_any ⟨op, to, a, b, c⟩ _).mono ?_
    rintro e w2 ⟨rfl, hb⟩
    rw [HMB.out]
    replace IX0 := hide (IX0.out.step hb)
    replace RX := hide (RX.out.step hb)
    replace HT := hide (HT.out.below hb)
    replace HB := hide (HB.out.trans (hb.mono HB.out.size))
    clear hb k0 k1 k2 k3 k4 q0 q1 q2 q3 q4 f0 f1 f2 f3 f4
    have k0 := IX0.out.cells.cell0
    have k1 := IX0.out.cells.cell1
    have k2 := IX0.out.cells.cell2
    have k3 := IX0.out.cells.cell3
    have k4 := IX0.out.cells.cell4
    simp only [Nat.zero_add] at k1 k2 k3 k4
    have q0 := RX.out.cells.cell0
    have q1 := RX.out.cells.cell1
    have q2 := RX.out.cells.cell2
    have q3 := RX.out.cells.cell3
    have q4 := RX.out.cells.cell4
    simp only [Nat.zero_add] at q1 q2 q3 q4
    have f0 := RX.out.free 0
    have f1 := RX.out.free 1
    have f2 := RX.out.free 2
    have f3 := RX.out.free 3
    have f4 := RX.out.free 4
    go_wp2
    refine ret_insb rfl R ⟨0, 0, 0, 0, 0⟩ rfl (RX.out.put ⟨0, 0, 0, 0, 0⟩) rfl ⟨HRES.out.symm, ?_⟩
    exact below_put5 HB.out (by have := ZR.out; omega) _ _ _ _ _
  | true =>
    have HMB := hide hm
    have CP : Hid (∀ u, TabW64 u → Calls Tryd.prog 11 #[.agg #[.int .i64 op, .int .i64 to, .int .i64 a, .int .i64 b, .int .i64 c]] u fun e w' => e = .returned (.agg #[.int .i64 (plI ⟨op, to, a, b, c⟩).op, .int .i64 (plI ⟨op, to, a, b, c⟩).to, .int .i64 (plI ⟨op, to, a, b, c⟩).a, .int .i64 (plI ⟨op, to, a, b, c⟩).b, .int .i64 (plI ⟨op, to, a, b, c⟩).c]) ∧ Below u.heap.size u w') := hide (fun u h => plain_any ⟨op, to, a, b, c⟩ u hm h)
    have HRES : Hid (plE ⟨op, to, a, b, c⟩ = .returned (.tuple #[.agg #[.int .i64 (plI ⟨op, to, a, b, c⟩).op, .int .i64 (plI ⟨op, to, a, b, c⟩).to, .int .i64 (plI ⟨op, to, a, b, c⟩).a, .int .i64 (plI ⟨op, to, a, b, c⟩).b, .int .i64 (plI ⟨op, to, a, b, c⟩).c], .bool (!eqI (plI ⟨op, to, a, b, c⟩) ⟨op, to, a, b, c⟩)])) := hide (by unfold plE plV plT; rw [hm]; rfl)
    clear hm
    generalize plE ⟨op, to, a, b, c⟩ = RES at *
    generalize plI ⟨op, to, a, b, c⟩ = y at *
    by_cases hy : y = ⟨op, to, a, b, c⟩
    · subst hy
      rw [eqI_yes rfl] at HRES
      dsimp only at CP HRES
      go_enter Tryd.func6, Tryd.ntmps6
      go_upto_region 1 with fail
      have b1 := below_alloc w (.cells #[.int .i64 op, .int .i64 to, .int .i64 a, .int .i64 b, .int .i64 c] 24)
      have b2 := below_alloc (w.alloc (.cells #[.int .i64 op, .int .i64 to, .int .i64 a, .int .i64 b, .int .i64 c] 24)) (.cells #[.int .i64 0, .int .i64 0, .int .i64 0, .int .i64 0, .int .i64 0] 24)
      have IX0 := ((Box5.new w 24 ⟨op, to, a, b, c⟩).step b2)
      replace IX0 : Hid (Box5 ((w.alloc (.cells #[.int .i64 op, .int .i64 to, .int .i64 a, .int .i64 b, .int .i64 c] 24)).alloc (.cells #[.int .i64 0, .int .i64 0, .int .i64 0, .int .i64 0, .int .i64 0] 24)) (w.heap.size) 24 ⟨op, to, a, b, c⟩) := hide IX0
      have RX := (Box5.new (w.alloc (.cells #[.int .i64 op, .int .i64 to, .int .i64 a, .int .i64 b, .int .i64 c] 24)) 24 ⟨0, 0, 0, 0, 0⟩)
      simp only [World.size_alloc] at RX
      replace RX : Hid (Box5 ((w.alloc (.cells #[.int .i64 op, .int .i64 to, .int .i64 a, .int .i64 b, .int .i64 c] 24)).alloc (.cells #[.int .i64 0, .int .i64 0, .int .i64 0, .int .i64 0, .int .i64 0] 24)) (w.heap.size + 1) 24 ⟨0, 0, 0, 0, 0⟩) := hide RX
      have HB := hide (b1.trans (b2.mono b1.size))
      replace HT := hide ((HT.out.below b1).below b2)
      clear b1 b2
      generalize (w.alloc (.cells #[.int .i64 op, .int .i64 to, .int .i64 a, .int .i64 b, .int .i64 c] 24)).alloc (.cells #[.int .i64 0, .int .i64 0, .int .i64 0, .int .i64 0, .int .i64 0] 24) = w1 at *
      obtain ⟨R, hR⟩ : ∃ B, B = w.heap.size + 1 := ⟨_, rfl⟩
      have ZR := hide hR
      rw [← hR] at RX ⊢
      clear hR
      obtain ⟨B0, hB0⟩ : ∃ B, B = w.heap.size := ⟨_, rfl⟩
      have ZB0 := hide hB0
      rw [← hB0] at IX0 ⊢
      clear hB0
      have k0 := IX0.out.cells.cell0
      have k1 := IX0.out.cells.cell1
      have k2 := IX0.out.cells.cell2
      have k3 := IX0.out.cells.cell3
      have k4 := IX0.out.cells.cell4
      simp only [Nat.zero_add] at k1 k2 k3 k4
      have q0 := RX.out.cells.cell0
      have q1 := RX.out.cells.cell1
      have q2 := RX.out.cells.cell2
      have q3 := RX.out.cells.cell3
      have q4 := RX.out.cells.cell4
      simp only [Nat.zero_add] at q1 q2 q3 q4
      have f0 := RX.out.free 0
      have f1 := RX.out.free 1
      have f2 := RX.out.free 2
      have f3 := RX.out.free 3
      have f4 := RX.out.free 4
      go_wp2_with fail
      refine (fmay_any ⟨op, to, a, b, c⟩ _).mono ?_
      rintro e w2 ⟨rfl, hb⟩
      rw [HMB.out]
      replace IX0 := hide (IX0.out.step hb)
      replace RX := hide (RX.out.step hb)
      replace HT := hide (HT.out.below hb)
      replace HB := hide (HB.out.trans (hb.mono HB.out.size))
      clear hb k0 k1 k2 k3 k4 q0 q1 q2 q3 q4 f0 f1 f2 f3 f4
      have k0 := IX0.out.cells.cell0
      have k1 := IX0.out.cells.cell1
      have k2 := IX0.out.cells.cell2
      have k3 := IX0.out.cells.cell3
      have k4 := IX0.out.cells.cell4
      simp only [Nat.zero_add] at k1 k2 k3 k4
      have q0 := RX.out.cells.cell0
      have q1 := RX.out.cells.cell1
      have q2 := RX.out.cells.cell2
      have q3 := RX.out.cells.cell3
      have q4 := RX.out.cells.cell4
      simp only [Nat.zero_add] at q1 q2 q3 q4
      have f0 := RX.out.free 0
      have f1 := RX.out.free 1
      have f2 := RX.out.free 2
      have f3 := RX.out.free 3
      have f4 := RX.out.free 4
      go_wp2_with fail
      refine (CP.out _ HT.out).mono ?_
      rintro e w3 ⟨rfl, hb⟩
      replace IX0 := hide (IX0.out.step hb)
      replace RX := hide (RX.out.step hb)
      replace HB := hide (HB.out.trans (hb.mono HB.out.size))
      clear hb k0 k1 k2 k3 k4 q0 q1 q2 q3 q4 f0 f1 f2 f3 f4
      have LR0 := hide RX.out.lt
      go_upto_region 4 with fail
      have hb := below_alloc w3 (.cells #[.int .i64 op, .int .i64 to, .int .i64 a, .int .i64 b, .int .i64 c] 24)
      have BX : Hid (Box5 (w3.alloc (.cells #[.int .i64 op, .int .i64 to, .int .i64 a, .int .i64 b, .int .i64 c] 24)) w3.heap.size 24 ⟨op, to, a, b, c⟩) := hide (Box5.new w3 24 ⟨op, to, a, b, c⟩)
      replace IX0 := hide (IX0.out.step hb)
      replace RX := hide (RX.out.step hb)
      replace HB := hide (HB.out.trans (hb.mono HB.out.size))
      clear hb
      have LB : Hid (R < w3.heap.size) := hide LR0.out
      generalize w3.alloc (.cells #[.int .i64 op, .int .i64 to, .int .i64 a, .int .i64 b, .int .i64 c] 24) = w4 at *
      generalize w3.heap.size = B4 at *
      replace RX := hide RX.out.drew
      refine wp_calm (fun w' => Below w.heap.size w w' ∧ Box5 w' B0 24 ⟨op, to, a, b, c⟩ ∧ Box5 w' B4 24 ⟨op, to, a, b, c⟩) (fun _ => true) 6 #[false, false, false, false, false, false] (by kernel_rfl) rfl rfl ?_
      have HF := hide (And.intro (HB.out.drew) (And.intro (IX0.out.drew) (BX.out.drew)))
      generalize w4.drew = w4d at *
      refine Calm.takeL 6 (i := 0) (v := ?_) (a' := ?_) (l' := #[true, false, false, false, false, false]) (d := some 11) (by kernel_rfl) rfl (by kernel_rfl) (by kernel_rfl) (by kernel_rfl) (by kernel_rfl) (fun _ _ _ h => h) HF.out rfl ?_ rfl rfl ?_ ?_
      rotate_left
      · intro w' hF; have f10 := hF.2.1.cells.cell0; have f11 := hF.2.1.cells.cell1; have f12 := hF.2.1.cells.cell2; have f13 := hF.2.1.cells.cell3; have f14 := hF.2.1.cells.cell4; simp only [Nat.zero_add] at f11 f12 f13 f14; have f20 := hF.2.2.cells.cell0; have f21 := hF.2.2.cells.cell1; have f22 := hF.2.2.cells.cell2; have f23 := hF.2.2.cells.cell3; have f24 := hF.2.2.cells.cell4; simp only [Nat.zero_add] at f21 f22 f23 f24; clear hF; go_simp; try rfl
      rotate_left
      · simp only [Act.put]; exact rfl
      refine Calm.takeL 6 (i := 1) (v := ?_) (a' := ?_) (l' := #[true, true, false, false, false, false]) (d := some 12) (by kernel_rfl) rfl (by kernel_rfl) (by kernel_rfl) (by kernel_rfl) (by kernel_rfl) (fun _ _ _ h => h) HF.out rfl ?_ rfl rfl ?_ ?_
      rotate_left
      · intro w' hF; have f10 := hF.2.1.cells.cell0; have f11 := hF.2.1.cells.cell1; have f12 := hF.2.1.cells.cell2; have f13 := hF.2.1.cells.cell3; have f14 := hF.2.1.cells.cell4; simp only [Nat.zero_add] at f11 f12 f13 f14; have f20 := hF.2.2.cells.cell0; have f21 := hF.2.2.cells.cell1; have f22 := hF.2.2.cells.cell2; have f23 := hF.2.2.cells.cell3; have f24 := hF.2.2.cells.cell4; simp only [Nat.zero_add] at f21 f22 f23 f24; clear hF; go_simp; try rfl
      rotate_left
      · simp only [Act.put]; exact rfl
      refine Calm.takeL 6 (i := 2) (v := ?_) (a' := ?_) (l' := #[true, true, true, false, false, false]) (d := some 13) (by kernel_rfl) rfl (by kernel_rfl) (by kernel_rfl) (by kernel_rfl) (by kernel_rfl) (fun _ _ _ h => h) HF.out rfl ?_ rfl rfl ?_ ?_
      rotate_left
      · intro w' hF; have f10 := hF.2.1.cells.cell0; have f11 := hF.2.1.cells.cell1; have f12 := hF.2.1.cells.cell2; have f13 := hF.2.1.cells.cell3; have f14 := hF.2.1.cells.cell4; simp only [Nat.zero_add] at f11 f12 f13 f14; have f20 := hF.2.2.cells.cell0; have f21 := hF.2.2.cells.cell1; have f22 := hF.2.2.cells.cell2; have f23 := hF.2.2.cells.cell3; have f24 := hF.2.2.cells.cell4; simp only [Nat.zero_add] at f21 f22 f23 f24; clear hF; go_simp; try rfl
      rotate_left
      · simp only [Act.put]; exact rfl
      refine Calm.takeL 6 (i := 3) (v := ?_) (a' := ?_) (l' := #[true, true, true, true, false, false]) (d := some 14) (by kernel_rfl) rfl (by kernel_rfl) (by kernel_rfl) (by kernel_rfl) (by kernel_rfl) (fun _ _ _ h => h) HF.out rfl ?_ rfl rfl ?_ ?_
      rotate_left
      · intro w' hF; clear hF; go_simp; try rfl
      rotate_left
      · simp only [Act.put]; exact rfl
      refine Calm.one (i := 4) (l' := #[true, true, true, true, true, false]) (by kernel_rfl) rfl rfl rfl fun K hK => ?_
      have r0 := RX.out.cells.cell0
      have r1 := RX.out.cells.cell1
      have r2 := RX.out.cells.cell2
      have r3 := RX.out.cells.cell3
      have r4 := RX.out.cells.cell4
      simp only [Nat.zero_add] at r1 r2 r3 r4
      have f0 := RX.out.free 0
      have f1 := RX.out.free 1
      have f2 := RX.out.free 2
      have f3 := RX.out.free 3
      have f4 := RX.out.free 4
      go_simp
      have HF' := hide (And.intro (below_put5 HF.out.1 (show w.heap.size ≤ R by have := ZR.out; omega) (.int .i64 op) (.int .i64 to) (.int .i64 a) (.int .i64 b) (.int .i64 c)) (And.intro (HF.out.2.1.other5 (C := R) (by have := ZR.out; have := ZB0.out; omega) (.int .i64 op) (.int .i64 to) (.int .i64 a) (.int .i64 b) (.int .i64 c)) (HF.out.2.2.other5 (C := R) (by have := LB.out; omega) (.int .i64 op) (.int .i64 to) (.int .i64 a) (.int .i64 b) (.int .i64 c))))
      replace RX := hide (RX.out.put ⟨op, to, a, b, c⟩)
      refine hK _ _ (fun _ => HF'.out) ?_
      clear hK K HF r0 r1 r2 r3 r4 f0 f1 f2 f3 f4
      have HF := hide HF'.out
      clear HF'
      generalize (((((w4d.setCell ⟨R, 0, none⟩ (.int .i64 op)).setCell ⟨R, 1, none⟩ (.int .i64 to)).setCell ⟨R, 2, none⟩ (.int .i64 a)).setCell ⟨R, 3, none⟩ (.int .i64 b)).setCell ⟨R, 4, none⟩ (.int .i64 c)) = w5 at *
      refine Calm.takeL 6 (i := 5) (v := ?_) (a' := ?_) (l' := #[true, true, true, true, true, true]) (d := some 3) (by kernel_rfl) rfl (by kernel_rfl) (by kernel_rfl) (by kernel_rfl) (by kernel_rfl) (fun _ _ _ h => h) HF.out rfl ?_ rfl rfl ?_ ?_
      rotate_left
      · intro w' hF; clear hF; go_simp; try rfl
      rotate_left
      · simp only [Act.put]; exact rfl
      refine Calm.done (by kernel_rfl) ?_
      go_wp2
      refine ret_insb rfl R ⟨op, to, a, b, c⟩ rfl RX.out rfl ⟨HRES.out.symm, HF.out.1⟩
    · rw [eqI_no hy] at HRES
      have hy2 := ins_ne hy
      clear hy
      obtain ⟨yo, yt, ya, yb, yc⟩ := y
      dsimp only at hy2 CP HRES
      rcases hy2 with e | ⟨e1, e⟩ | ⟨e1, e2, e⟩ | ⟨e1, e2, e3, e⟩ | ⟨e1, e2, e3, e4, e⟩
      · have qe : (yo == op) = false := by simpa using e
        clear e
        go_enter Tryd.func6, Tryd.ntmps6
        go_upto_region 1 with fail
        have b1 := below_alloc w (.cells #[.int .i64 op, .int .i64 to, .int .i64 a, .int .i64 b, .int .i64 c] 24)
        have b2 := below_alloc (w.alloc (.cells #[.int .i64 op, .int .i64 to, .int .i64 a, .int .i64 b, .int .i64 c] 24)) (.cells #[.int .i64 0, .int .i64 0, .int .i64 0, .int .i64 0, .int .i64 0] 24)
        have IX0 := ((Box5.new w 24 ⟨op, to, a, b, c⟩).step b2)
        replace IX0 : Hid (Box5 ((w.alloc (.cells #[.int .i64 op, .int .i64 to, .int .i64 a, .int .i64 b, .int .i64 c] 24)).alloc (.cells #[.int .i64 0, .int .i64 0, .int .i64 0, .int .i64 0, .int .i64 0] 24)) (w.heap.size) 24 ⟨op, to, a, b, c⟩) := hide IX0
        have RX := (Box5.new (w.alloc (.cells #[.int .i64 op, .int .i64 to, .int .i64 a, .int .i64 b, .int .i64 c] 24)) 24 ⟨0, 0, 0, 0, 0⟩)
        simp only [World.size_alloc] at RX
        replace RX : Hid (Box5 ((w.alloc (.cells #[.int .i64 op, .int .i64 to, .int .i64 a, .int .i64 b, .int .i64 c] 24)).alloc (.cells #[.int .i64 0, .int .i64 0, .int .i64 0, .int .i64 0, .int .i64 0] 24)) (w.heap.size + 1) 24 ⟨0, 0, 0, 0, 0⟩) := hide RX
        have HB := hide (b1.trans (b2.mono b1.size))
        replace HT := hide ((HT.out.below b1).below b2)
        clear b1 b2
        generalize (w.alloc (.cells #[.int .i64 op, .int .i64 to, .int .i64 a, .int .i64 b, .int .i64 c] 24)).alloc (.cells #[.int .i64 0, .int .i64 0, .int .i64 0, .int .i64 0, .int .i64 0] 24) = w1 at *
        obtain ⟨R, hR⟩ : ∃ B, B = w.heap.size + 1 := ⟨_, rfl⟩
        have ZR := hide hR
        rw [← hR] at RX ⊢
        clear hR
        obtain ⟨B0, hB0⟩ : ∃ B, B = w.heap.size := ⟨_, rfl⟩
        have ZB0 := hide hB0
        rw [← hB0] at IX0 ⊢
        clear hB0
        have k0 := IX0.out.cells.cell0
        have k1 := IX0.out.cells.cell1
        have k2 := IX0.out.cells.cell2
        have k3 := IX0.out.cells.cell3
        have k4 := IX0.out.cells.cell4
        simp only [Nat.zero_add] at k1 k2 k3 k4
        have q0 := RX.out.cells.cell0
        have q1 := RX.out.cells.cell1
        have q2 := RX.out.cells.cell2
        have q3 := RX.out.cells.cell3
        have q4 := RX.out.cells.cell4
        simp only [Nat.zero_add] at q1 q2 q3 q4
        have f0 := RX.out.free 0
        have f1 := RX.out.free 1
        have f2 := RX.out.free 2
        have f3 := RX.out.free 3
        have f4 := RX.out.free 4
        go_wp2_with fail
        refine (fmay_any ⟨op, to, a, b, c⟩ _).mono ?_
        rintro e w2 ⟨rfl, hb⟩
        rw [HMB.out]
        replace IX0 := hide (IX0.out.step hb)
        replace RX := hide (RX.out.step hb)
        replace HT := hide (HT.out.below hb)
        replace HB := hide (HB.out.trans (hb.mono HB.out.size))
        clear hb k0 k1 k2 k3 k4 q0 q1 q2 q3 q4 f0 f1 f2 f3 f4
        have k0 := IX0.out.cells.cell0
        have k1 := IX0.out.cells.cell1
        have k2 := IX0.out.cells.cell2
        have k3 := IX0.out.cells.cell3
        have k4 := IX0.out.cells.cell4
        simp only [Nat.zero_add] at k1 k2 k3 k4
        have q0 := RX.out.cells.cell0
        have q1 := RX.out.cells.cell1
        have q2 := RX.out.cells.cell2
        have q3 := RX.out.cells.cell3
        have q4 := RX.out.cells.cell4
        simp only [Nat.zero_add] at q1 q2 q3 q4
        have f0 := RX.out.free 0
        have f1 := RX.out.free 1
        have f2 := RX.out.free 2
        have f3 := RX.out.free 3
        have f4 := RX.out.free 4
        go_wp2_with fail
        refine (CP.out _ HT.out).mono ?_
        rintro e w3 ⟨rfl, hb⟩
        replace IX0 := hide (IX0.out.step hb)
        replace RX := hide (RX.out.step hb)
        replace HB := hide (HB.out.trans (hb.mono HB.out.size))
        clear hb k0 k1 k2 k3 k4 q0 q1 q2 q3 q4 f0 f1 f2 f3 f4
        have LR0 := hide RX.out.lt
        go_upto_region 4 with fail
        have hb := below_alloc w3 (.cells #[.int .i64 yo, .int .i64 yt, .int .i64 ya, .int .i64 yb, .int .i64 yc] 24)
        have BX : Hid (Box5 (w3.alloc (.cells #[.int .i64 yo, .int .i64 yt, .int .i64 ya, .int .i64 yb, .int .i64 yc] 24)) w3.heap.size 24 ⟨yo, yt, ya, yb, yc⟩) := hide (Box5.new w3 24 ⟨yo, yt, ya, yb, yc⟩)
        replace IX0 := hide (IX0.out.step hb)
        replace RX := hide (RX.out.step hb)
        replace HB := hide (HB.out.trans (hb.mono HB.out.size))
        clear hb
        have LB : Hid (R < w3.heap.size) := hide LR0.out
        generalize w3.alloc (.cells #[.int .i64 yo, .int .i64 yt, .int .i64 ya, .int .i64 yb, .int .i64 yc] 24) = w4 at *
        generalize w3.heap.size = B4 at *
        replace RX := hide RX.out.drew
        refine wp_calm (fun w' => Below w.heap.size w w' ∧ Box5 w' B0 24 ⟨op, to, a, b, c⟩ ∧ Box5 w' B4 24 ⟨yo, yt, ya, yb, yc⟩) (fun _ => true) 6 #[false, false, false, false, false, false] (by kernel_rfl) rfl rfl ?_
        have HF := hide (And.intro (HB.out.drew) (And.intro (IX0.out.drew) (BX.out.drew)))
        generalize w4.drew = w4d at *
        refine Calm.takeL 6 (i := 0) (v := ?_) (a' := ?_) (l' := #[true, false, false, false, false, false]) (d := some 11) (by kernel_rfl) rfl (by kernel_rfl) (by kernel_rfl) (by kernel_rfl) (by kernel_rfl) (fun _ _ _ h => h) HF.out rfl ?_ rfl rfl ?_ ?_
        rotate_left
        · intro w' hF; have f10 := hF.2.1.cells.cell0; have f11 := hF.2.1.cells.cell1; have f12 := hF.2.1.cells.cell2; have f13 := hF.2.1.cells.cell3; have f14 := hF.2.1.cells.cell4; simp only [Nat.zero_add] at f11 f12 f13 f14; have f20 := hF.2.2.cells.cell0; have f21 := hF.2.2.cells.cell1; have f22 := hF.2.2.cells.cell2; have f23 := hF.2.2.cells.cell3; have f24 := hF.2.2.cells.cell4; simp only [Nat.zero_add] at f21 f22 f23 f24; clear hF; go_simp; try rfl
        rotate_left
        · simp only [Act.put]; exact rfl
        refine Calm.takeL 6 (i := 1) (v := ?_) (a' := ?_) (l' := #[true, true, false, false, false, false]) (d := some 12) (by kernel_rfl) rfl (by kernel_rfl) (by kernel_rfl) (by kernel_rfl) (by kernel_rfl) (fun _ _ _ h => h) HF.out rfl ?_ rfl rfl ?_ ?_
        rotate_left
        · intro w' hF; have f10 := hF.2.1.cells.cell0; have f11 := hF.2.1.cells.cell1; have f12 := hF.2.1.cells.cell2; have f13 := hF.2.1.cells.cell3; have f14 := hF.2.1.cells.cell4; simp only [Nat.zero_add] at f11 f12 f13 f14; have f20 := hF.2.2.cells.cell0; have f21 := hF.2.2.cells.cell1; have f22 := hF.2.2.cells.cell2; have f23 := hF.2.2.cells.cell3; have f24 := hF.2.2.cells.cell4; simp only [Nat.zero_add] at f21 f22 f23 f24; clear hF; go_simp; try rfl
        rotate_left
        · simp only [Act.put]; exact rfl
        refine Calm.takeL 6 (i := 2) (v := ?_) (a' := ?_) (l' := #[true, true, true, false, false, false]) (d := some 13) (by kernel_rfl) rfl (by kernel_rfl) (by kernel_rfl) (by kernel_rfl) (by kernel_rfl) (fun _ _ _ h => h) HF.out rfl ?_ rfl rfl ?_ ?_
        rotate_left
        · intro w' hF; have f10 := hF.2.1.cells.cell0; have f11 := hF.2.1.cells.cell1; have f12 := hF.2.1.cells.cell2; have f13 := hF.2.1.cells.cell3; have f14 := hF.2.1.cells.cell4; simp only [Nat.zero_add] at f11 f12 f13 f14; have f20 := hF.2.2.cells.cell0; have f21 := hF.2.2.cells.cell1; have f22 := hF.2.2.cells.cell2; have f23 := hF.2.2.cells.cell3; have f24 := hF.2.2.cells.cell4; simp only [Nat.zero_add] at f21 f22 f23 f24; clear hF; go_simp; try rfl
        rotate_left
        · simp only [Act.put]; exact rfl
        refine Calm.takeL 6 (i := 3) (v := ?_) (a' := ?_) (l' := #[true, true, true, true, false, false]) (d := some 14) (by kernel_rfl) rfl (by kernel_rfl) (by kernel_rfl) (by kernel_rfl) (by kernel_rfl) (fun _ _ _ h => h) HF.out rfl ?_ rfl rfl ?_ ?_
        rotate_left
        · intro w' hF; clear hF; go_simp; try rfl
        rotate_left
        · simp only [Act.put]; exact rfl
        refine Calm.one (i := 4) (l' := #[true, true, true, true, true, false]) (by kernel_rfl) rfl rfl rfl fun K hK => ?_
        have r0 := RX.out.cells.cell0
        have r1 := RX.out.cells.cell1
        have r2 := RX.out.cells.cell2
        have r3 := RX.out.cells.cell3
        have r4 := RX.out.cells.cell4
        simp only [Nat.zero_add] at r1 r2 r3 r4
        have f0 := RX.out.free 0
        have f1 := RX.out.free 1
        have f2 := RX.out.free 2
        have f3 := RX.out.free 3
        have f4 := RX.out.free 4
        go_simp
        have HF' := hide (And.intro (below_put5 HF.out.1 (show w.heap.size ≤ R by have := ZR.out; omega) (.int .i64 yo) (.int .i64 yt) (.int .i64 ya) (.int .i64 yb) (.int .i64 yc)) (And.intro (HF.out.2.1.other5 (C := R) (by have := ZR.out; have := ZB0.out; omega) (.int .i64 yo) (.int .i64 yt) (.int .i64 ya) (.int .i64 yb) (.int .i64 yc)) (HF.out.2.2.other5 (C := R) (by have := LB.out; omega) (.int .i64 yo) (.int .i64 yt) (.int .i64 ya) (.int .i64 yb) (.int .i64 yc))))
        replace RX := hide (RX.out.put ⟨yo, yt, ya, yb, yc⟩)
        refine hK _ _ (fun _ => HF'.out) ?_
        clear hK K HF r0 r1 r2 r3 r4 f0 f1 f2 f3 f4
        have HF := hide HF'.out
        clear HF'
        generalize (((((w4d.setCell ⟨R, 0, none⟩ (.int .i64 yo)).setCell ⟨R, 1, none⟩ (.int .i64 yt)).setCell ⟨R, 2, none⟩ (.int .i64 ya)).setCell ⟨R, 3, none⟩ (.int .i64 yb)).setCell ⟨R, 4, none⟩ (.int .i64 yc)) = w5 at *
        refine Calm.takeL 6 (i := 5) (v := ?_) (a' := ?_) (l' := #[true, true, true, true, true, true]) (d := some 3) (by kernel_rfl) rfl (by kernel_rfl) (by kernel_rfl) (by kernel_rfl) (by kernel_rfl) (fun _ _ _ h => h) HF.out rfl ?_ rfl rfl ?_ ?_
        rotate_left
        · intro w' hF; clear hF; go_simp; try rfl
        rotate_left
        · simp only [Act.put]; exact rfl
        refine Calm.done (by kernel_rfl) ?_
        go_wp2
        refine ret_insb rfl R ⟨yo, yt, ya, yb, yc⟩ rfl RX.out rfl ⟨HRES.out.symm, HF.out.1⟩
      · have qe : (yt == to) = false := by simpa using e
        clear e
        replace e1 := e1.symm
        subst e1
        go_enter Tryd.func6, Tryd.ntmps6
        go_upto_region 1 with fail
        have b1 := below_alloc w (.cells #[.int .i64 op, .int .i64 to, .int .i64 a, .int .i64 b, .int .i64 c] 24)
        have b2 := below_alloc (w.alloc (.cells #[.int .i64 op, .int .i64 to, .int .i64 a, .int .i64 b, .int .i64 c] 24)) (.cells #[.int .i64 0, .int .i64 0, .int .i64 0, .int .i64 0, .int .i64 0] 24)
        have IX0 := ((Box5.new w 24 ⟨op, to, a, b, c⟩).step b2)
        replace IX0 : Hid (Box5 ((w.alloc (.cells #[.int .i64 op, .int .i64 to, .int .i64 a, .int .i64 b, .int .i64 c] 24)).alloc (.cells #[.int .i64 0, .int .i64 0, .int .i64 0, .int .i64 0, .int .i64 0] 24)) (w.heap.size) 24 ⟨op, to, a, b, c⟩) := hide IX0
        have RX := (Box5.new (w.alloc (.cells #[.int .i64 op, .int .i64 to, .int .i64 a, .int .i64 b, .int .i64 c] 24)) 24 ⟨0, 0, 0, 0, 0⟩)
        simp only [World.size_alloc] at RX
        replace RX : Hid (Box5 ((w.alloc (.cells #[.int .i64 op, .int .i64 to, .int .i64 a, .int .i64 b, .int .i64 c] 24)).alloc (.cells #[.int .i64 0, .int .i64 0, .int .i64 0, .int .i64 0, .int .i64 0] 24)) (w.heap.size + 1) 24 ⟨0, 0, 0, 0, 0⟩) := hide RX
        have HB := hide (b1.trans (b2.mono b1.size))
        replace HT := hide ((HT.out.below b1).below b2)
        clear b1 b2
        generalize (w.alloc (.cells #[.int .i64 op, .int .i64 to, .int .i64 a, .int .i64 b, .int .i64 c] 24)).alloc (.cells #[.int .i64 0, .int .i64 0, .int .i64 0, .int .i64 0, .int .i64 0] 24) = w1 at *
        obtain ⟨R, hR⟩ : ∃ B, B = w.heap.size + 1 := ⟨_, rfl⟩
        have ZR := hide hR
        rw [← hR] at RX ⊢
        clear hR
        obtain ⟨B0, hB0⟩ : ∃ B, B = w.heap.size := ⟨_, rfl⟩
        have ZB0 := hide hB0
        rw [← hB0] at IX0 ⊢
        clear hB0
        have k0 := IX0.out.cells.cell0
        have k1 := IX0.out.cells.cell1
        have k2 := IX0.out.cells.cell2
        have k3 := IX0.out.cells.cell3
        have k4 := IX0.out.cells.cell4
        simp only [Nat.zero_add] at k1 k2 k3 k4
        have q0 := RX.out.cells.cell0
        have q1 := RX.out.cells.cell1
        have q2 := RX.out.cells.cell2
        have q3 := RX.out.cells.cell3
        have q4 := RX.out.cells.cell4
        simp only [Nat.zero_add] at q1 q2 q3 q4
        have f0 := RX.out.free 0
        have f1 := RX.out.free 1
        have f2 := RX.out.free 2
        have f3 := RX.out.free 3
        have f4 := RX.out.free 4
        go_wp2_with fail
        refine (fmay_any ⟨op, to, a, b, c⟩ _).mono ?_
        rintro e w2 ⟨rfl, hb⟩
        rw [HMB.out]
        replace IX0 := hide (IX0.out.step hb)
        replace RX := hide (RX.out.step hb)
        replace HT := hide (HT.out.below hb)
        replace HB := hide (HB.out.trans (hb.mono HB.out.size))
        clear hb k0 k1 k2 k3 k4 q0 q1 q2 q3 q4 f0 f1 f2 f3 f4
        have k0 := IX0.out.cells.cell0
        have k1 := IX0.out.cells.cell1
        have k2 := IX0.out.cells.cell2
        have k3 := IX0.out.cells.cell3
        have k4 := IX0.out.cells.cell4
        simp only [Nat.zero_add] at k1 k2 k3 k4
        have q0 := RX.out.cells.cell0
        have q1 := RX.out.cells.cell1
        have q2 := RX.out.cells.cell2
        have q3 := RX.out.cells.cell3
        have q4 := RX.out.cells.cell4
        simp only [Nat.zero_add] at q1 q2 q3 q4
        have f0 := RX.out.free 0
        have f1 := RX.out.free 1
        have f2 := RX.out.free 2
        have f3 := RX.out.free 3
        have f4 := RX.out.free 4
        go_wp2_with fail
        refine (CP.out _ HT.out).mono ?_
        rintro e w3 ⟨rfl, hb⟩
        replace IX0 := hide (IX0.out.step hb)
        replace RX := hide (RX.out.step hb)
        replace HB := hide (HB.out.trans (hb.mono HB.out.size))
        clear hb k0 k1 k2 k3 k4 q0 q1 q2 q3 q4 f0 f1 f2 f3 f4
        have LR0 := hide RX.out.lt
        go_upto_region 4 with fail
        have hb := below_alloc w3 (.cells #[.int .i64 op, .int .i64 yt, .int .i64 ya, .int .i64 yb, .int .i64 yc] 24)
        have BX : Hid (Box5 (w3.alloc (.cells #[.int .i64 op, .int .i64 yt, .int .i64 ya, .int .i64 yb, .int .i64 yc] 24)) w3.heap.size 24 ⟨op, yt, ya, yb, yc⟩) := hide (Box5.new w3 24 ⟨op, yt, ya, yb, yc⟩)
        replace IX0 := hide (IX0.out.step hb)
        replace RX := hide (RX.out.step hb)
        replace HB := hide (HB.out.trans (hb.mono HB.out.size))
        clear hb
        have LB : Hid (R < w3.heap.size) := hide LR0.out
        generalize w3.alloc (.cells #[.int .i64 op, .int .i64 yt, .int .i64 ya, .int .i64 yb, .int .i64 yc] 24) = w4 at *
        generalize w3.heap.size = B4 at *
        replace RX := hide RX.out.drew
        refine wp_calm (fun w' => Below w.heap.size w w' ∧ Box5 w' B0 24 ⟨op, to, a, b, c⟩ ∧ Box5 w' B4 24 ⟨op, yt, ya, yb, yc⟩) (fun _ => true) 6 #[false, false, false, false, false, false] (by kernel_rfl) rfl rfl ?_
        have HF := hide (And.intro (HB.out.drew) (And.intro (IX0.out.drew) (BX.out.drew)))
        generalize w4.drew = w4d at *
        refine Calm.takeL 6 (i := 0) (v := ?_) (a' := ?_) (l' := #[true, false, false, false, false, false]) (d := some 11) (by kernel_rfl) rfl (by kernel_rfl) (by kernel_rfl) (by kernel_rfl) (by kernel_rfl) (fun _ _ _ h => h) HF.out rfl ?_ rfl rfl ?_ ?_
        rotate_left
        · intro w' hF; have f10 := hF.2.1.cells.cell0; have f11 := hF.2.1.cells.cell1; have f12 := hF.2.1.cells.cell2; have f13 := hF.2.1.cells.cell3; have f14 := hF.2.1.cells.cell4; simp only [Nat.zero_add] at f11 f12 f13 f14; have f20 := hF.2.2.cells.cell0; have f21 := hF.2.2.cells.cell1; have f22 := hF.2.2.cells.cell2; have f23 := hF.2.2.cells.cell3; have f24 := hF.2.2.cells.cell4; simp only [Nat.zero_add] at f21 f22 f23 f24; clear hF; go_simp; try rfl
        rotate_left
        · simp only [Act.put]; exact rfl
        refine Calm.takeL 6 (i := 1) (v := ?_) (a' := ?_) (l' := #[true, true, false, false, false, false]) (d := some 12) (by kernel_rfl) rfl (by kernel_rfl) (by kernel_rfl) (by kernel_rfl) (by kernel_rfl) (fun _ _ _ h => h) HF.out rfl ?_ rfl rfl ?_ ?_
        rotate_left
        · intro w' hF; have f10 := hF.2.1.cells.cell0; have f11 := hF.2.1.cells.cell1; have f12 := hF.2.1.cells.cell2; have f13 := hF.2.1.cells.cell3; have f14 := hF.2.1.cells.cell4; simp only [Nat.zero_add] at f11 f12 f13 f14; have f20 := hF.2.2.cells.cell0; have f21 := hF.2.2.cells.cell1; have f22 := hF.2.2.cells.cell2; have f23 := hF.2.2.cells.cell3; have f24 := hF.2.2.cells.cell4; simp only [Nat.zero_add] at f21 f22 f23 f24; clear hF; go_simp; try rfl
        rotate_left
        · simp only [Act.put]; exact rfl
        refine Calm.takeL 6 (i := 2) (v := ?_) (a' := ?_) (l' := #[true, true, true, false, false, false]) (d := some 13) (by kernel_rfl) rfl (by kernel_rfl) (by kernel_rfl) (by kernel_rfl) (by kernel_rfl) (fun _ _ _ h => h) HF.out rfl ?_ rfl rfl ?_ ?_
        rotate_left
        · intro w' hF; have f10 := hF.2.1.cells.cell0; have f11 := hF.2.1.cells.cell1; have f12 := hF.2.1.cells.cell2; have f13 := hF.2.1.cells.cell3; have f14 := hF.2.1.cells.cell4; simp only [Nat.zero_add] at f11 f12 f13 f14; have f20 := hF.2.2.cells.cell0; have f21 := hF.2.2.cells.cell1; have f22 := hF.2.2.cells.cell2; have f23 := hF.2.2.cells.cell3; have f24 := hF.2.2.cells.cell4; simp only [Nat.zero_add] at f21 f22 f23 f24; clear hF; go_simp; try rfl
        rotate_left
        · simp only [Act.put]; exact rfl
        refine Calm.takeL 6 (i := 3) (v := ?_) (a' := ?_) (l' := #[true, true, true, true, false, false]) (d := some 14) (by kernel_rfl) rfl (by kernel_rfl) (by kernel_rfl) (by kernel_rfl) (by kernel_rfl) (fun _ _ _ h => h) HF.out rfl ?_ rfl rfl ?_ ?_
        rotate_left
        · intro w' hF; clear hF; go_simp; try rfl
        rotate_left
        · simp only [Act.put]; exact rfl
        refine Calm.one (i := 4) (l' := #[true, true, true, true, true, false]) (by kernel_rfl) rfl rfl rfl fun K hK => ?_
        have r0 := RX.out.cells.cell0
        have r1 := RX.out.cells.cell1
        have r2 := RX.out.cells.cell2
        have r3 := RX.out.cells.cell3
        have r4 := RX.out.cells.cell4
        simp only [Nat.zero_add] at r1 r2 r3 r4
        have f0 := RX.out.free 0
        have f1 := RX.out.free 1
        have f2 := RX.out.free 2
        have f3 := RX.out.free 3
        have f4 := RX.out.free 4
        go_simp
        have HF' := hide (And.intro (below_put5 HF.out.1 (show w.heap.size ≤ R by have := ZR.out; omega) (.int .i64 op) (.int .i64 yt) (.int .i64 ya) (.int .i64 yb) (.int .i64 yc)) (And.intro (HF.out.2.1.other5 (C := R) (by have := ZR.out; have := ZB0.out; omega) (.int .i64 op) (.int .i64 yt) (.int .i64 ya) (.int .i64 yb) (.int .i64 yc)) (HF.out.2.2.other5 (C := R) (by have := LB.out; omega) (.int .i64 op) (.int .i64 yt) (.int .i64 ya) (.int .i64 yb) (.int .i64 yc))))
        replace RX := hide (RX.out.put ⟨op, yt, ya, yb, yc⟩)
        refine hK _ _ (fun _ => HF'.out) ?_
        clear hK K HF r0 r1 r2 r3 r4 f0 f1 f2 f3 f4
        have HF := hide HF'.out
        clear HF'
        generalize (((((w4d.setCell ⟨R, 0, none⟩ (.int .i64 op)).setCell ⟨R, 1, none⟩ (.int .i64 yt)).setCell ⟨R, 2, none⟩ (.int .i64 ya)).setCell ⟨R, 3, none⟩ (.int .i64 yb)).setCell ⟨R, 4, none⟩ (.int .i64 yc)) = w5 at *
        refine Calm.takeL 6 (i := 5) (v := ?_) (a' := ?_) (l' := #[true, true, true, true, true, true]) (d := some 3) (by kernel_rfl) rfl (by kernel_rfl) (by kernel_rfl) (by kernel_rfl) (by kernel_rfl) (fun _ _ _ h => h) HF.out rfl ?_ rfl rfl ?_ ?_
        rotate_left
        · intro w' hF; clear hF; go_simp; try rfl
        rotate_left
        · simp only [Act.put]; exact rfl
        refine Calm.done (by kernel_rfl) ?_
        go_wp2
        refine ret_insb rfl R ⟨op, yt, ya, yb, yc⟩ rfl RX.out rfl ⟨HRES.out.symm, HF.out.1⟩
      · have qe : (ya == a) = false := by simpa using e
        clear e
        replace e1 := e1.symm
        subst e1
        replace e2 := e2.symm
        subst e2
        go_enter Tryd.func6, Tryd.ntmps6
        go_upto_region 1 with fail
        have b1 := below_alloc w (.cells #[.int .i64 op, .int .i64 to, .int .i64 a, .int .i64 b, .int .i64 c] 24)
        have b2 := below_alloc (w.alloc (.cells #[.int .i64 op, .int .i64 to, .int .i64 a, .int .i64 b, .int .i64 c] 24)) (.cells #[.int .i64 0, .int .i64 0, .int .i64 0, .int .i64 0, .int .i64 0] 24)
        have IX0 := ((Box5.new w 24 ⟨op, to, a, b, c⟩).step b2)
        replace IX0 : Hid (Box5 ((w.alloc (.cells #[.int .i64 op, .int .i64 to, .int .i64 a, .int .i64 b, .int .i64 c] 24)).alloc (.cells #[.int .i64 0, .int .i64 0, .int .i64 0, .int .i64 0, .int .i64 0] 24)) (w.heap.size) 24 ⟨op, to, a, b, c⟩) := hide IX0
        have RX := (Box5.new (w.alloc (.cells #[.int .i64 op, .int .i64 to, .int .i64 a, .int .i64 b, .int .i64 c] 24)) 24 ⟨0, 0, 0, 0, 0⟩)
        simp only [World.size_alloc] at RX
        replace RX : Hid (Box5 ((w.alloc (.cells #[.int .i64 op, .int .i64 to, .int .i64 a, .int .i64 b, .int .i64 c] 24)).alloc (.cells #[.int .i64 0, .int .i64 0, .int .i64 0, .int .i64 0, .int .i64 0] 24)) (w.heap.size + 1) 24 ⟨0, 0, 0, 0, 0⟩) := hide RX
        have HB := hide (b1.trans (b2.mono b1.size))
        replace HT := hide ((HT.out.below b1).below b2)
        clear b1 b2
        generalize (w.alloc (.cells #[.int .i64 op, .int .i64 to, .int .i64 a, .int .i64 b, .int .i64 c] 24)).alloc (.cells #[.int .i64 0, .int .i64 0, .int .i64 0, .int .i64 0, .int .i64 0] 24) = w1 at *
        obtain ⟨R, hR⟩ : ∃ B, B = w.heap.size + 1 := ⟨_, rfl⟩
        have ZR := hide hR
        rw [← hR] at RX ⊢
        clear hR
        obtain ⟨B0, hB0⟩ : ∃ B, B = w.heap.size := ⟨_, rfl⟩
        have ZB0 := hide hB0
        rw [← hB0] at IX0 ⊢
        clear hB0
        have k0 := IX0.out.cells.cell0
        have k1 := IX0.out.cells.cell1
        have k2 := IX0.out.cells.cell2
        have k3 := IX0.out.cells.cell3
        have k4 := IX0.out.cells.cell4
        simp only [Nat.zero_add] at k1 k2 k3 k4
        have q0 := RX.out.cells.cell0
        have q1 := RX.out.cells.cell1
        have q2 := RX.out.cells.cell2
        have q3 := RX.out.cells.cell3
        have q4 := RX.out.cells.cell4
        simp only [Nat.zero_add] at q1 q2 q3 q4
        have f0 := RX.out.free 0
        have f1 := RX.out.free 1
        have f2 := RX.out.free 2
        have f3 := RX.out.free 3
        have f4 := RX.out.free 4
        go_wp2_with fail
        refine (fmay_any ⟨op, to, a, b, c⟩ _).mono ?_
        rintro e w2 ⟨rfl, hb⟩
        rw [HMB.out]
        replace IX0 := hide (IX0.out.step hb)
        replace RX := hide (RX.out.step hb)
        replace HT := hide (HT.out.below hb)
        replace HB := hide (HB.out.trans (hb.mono HB.out.size))
        clear hb k0 k1 k2 k3 k4 q0 q1 q2 q3 q4 f0 f1 f2 f3 f4
        have k0 := IX0.out.cells.cell0
        have k1 := IX0.out.cells.cell1
        have k2 := IX0.out.cells.cell2
        have k3 := IX0.out.cells.cell3
        have k4 := IX0.out.cells.cell4
        simp only [Nat.zero_add] at k1 k2 k3 k4
        have q0 := RX.out.cells.cell0
        have q1 := RX.out.cells.cell1
        have q2 := RX.out.cells.cell2
        have q3 := RX.out.cells.cell3
        have q4 := RX.out.cells.cell4
        simp only [Nat.zero_add] at q1 q2 q3 q4
        have f0 := RX.out.free 0
        have f1 := RX.out.free 1
        have f2 := RX.out.free 2
        have f3 := RX.out.free 3
        have f4 := RX.out.free 4
        go_wp2_with fail
        refine (CP.out _ HT.out).mono ?_
        rintro e w3 ⟨rfl, hb⟩
        replace IX0 := hide (IX0.out.step hb)
        replace RX := hide (RX.out.step hb)
        replace HB := hide (HB.out.trans (hb.mono HB.out.size))
        clear hb k0 k1 k2 k3 k4 q0 q1 q2 q3 q4 f0 f1 f2 f3 f4
        have LR0 := hide RX.out.lt
        go_upto_region 4 with fail
        have hb := below_alloc w3 (.cells #[.int .i64 op, .int .i64 to, .int .i64 ya, .int .i64 yb, .int .i64 yc] 24)
        have BX : Hid (Box5 (w3.alloc (.cells #[.int .i64 op, .int .i64 to, .int .i64 ya, .int .i64 yb, .int .i64 yc] 24)) w3.heap.size 24 ⟨op, to, ya, yb, yc⟩) := hide (Box5.new w3 24 ⟨op, to, ya, yb, yc⟩)
        replace IX0 := hide (IX0.out.step hb)
        replace RX := hide (RX.out.step hb)
        replace HB := hide (HB.out.trans (hb.mono HB.out.size))
        clear hb
        have LB : Hid (R < w3.heap.size) := hide LR0.out
        generalize w3.alloc (.cells #[.int .i64 op, .int .i64 to, .int .i64 ya, .int .i64 yb, .int .i64 yc] 24) = w4 at *
        generalize w3.heap.size = B4 at *
        replace RX := hide RX.out.drew
        refine wp_calm (fun w' => Below w.heap.size w w' ∧ Box5 w' B0 24 ⟨op, to, a, b, c⟩ ∧ Box5 w' B4 24 ⟨op, to, ya, yb, yc⟩) (fun _ => true) 6 #[false, false, false, false, false, false] (by kernel_rfl) rfl rfl ?_
        have HF := hide (And.intro (HB.out.drew) (And.intro (IX0.out.drew) (BX.out.drew)))
        generalize w4.drew = w4d at *
        refine Calm.takeL 6 (i := 0) (v := ?_) (a' := ?_) (l' := #[true, false, false, false, false, false]) (d := some 11) (by kernel_rfl) rfl (by kernel_rfl) (by kernel_rfl) (by kernel_rfl) (by kernel_rfl) (fun _ _ _ h => h) HF.out rfl ?_ rfl rfl ?_ ?_
        rotate_left
        · intro w' hF; have f10 := hF.2.1.cells.cell0; have f11 := hF.2.1.cells.cell1; have f12 := hF.2.1.cells.cell2; have f13 := hF.2.1.cells.cell3; have f14 := hF.2.1.cells.cell4; simp only [Nat.zero_add] at f11 f12 f13 f14; have f20 := hF.2.2.cells.cell0; have f21 := hF.2.2.cells.cell1; have f22 := hF.2.2.cells.cell2; have f23 := hF.2.2.cells.cell3; have f24 := hF.2.2.cells.cell4; simp only [Nat.zero_add] at f21 f22 f23 f24; clear hF; go_simp; try rfl
        rotate_left
        · simp only [Act.put]; exact rfl
        refine Calm.takeL 6 (i := 1) (v := ?_) (a' := ?_) (l' := #[true, true, false, false, false, false]) (d := some 12) (by kernel_rfl) rfl (by kernel_rfl) (by kernel_rfl) (by kernel_rfl) (by kernel_rfl) (fun _ _ _ h => h) HF.out rfl ?_ rfl rfl ?_ ?_
        rotate_left
        · intro w' hF; have f10 := hF.2.1.cells.cell0; have f11 := hF.2.1.cells.cell1; have f12 := hF.2.1.cells.cell2; have f13 := hF.2.1.cells.cell3; have f14 := hF.2.1.cells.cell4; simp only [Nat.zero_add] at f11 f12 f13 f14; have f20 := hF.2.2.cells.cell0; have f21 := hF.2.2.cells.cell1; have f22 := hF.2.2.cells.cell2; have f23 := hF.2.2.cells.cell3; have f24 := hF.2.2.cells.cell4; simp only [Nat.zero_add] at f21 f22 f23 f24; clear hF; go_simp; try rfl
        rotate_left
        · simp only [Act.put]; exact rfl
        refine Calm.takeL 6 (i := 2) (v := ?_) (a' := ?_) (l' := #[true, true, true, false, false, false]) (d := some 13) (by kernel_rfl) rfl (by kernel_rfl) (by kernel_rfl) (by kernel_rfl) (by kernel_rfl) (fun _ _ _ h => h) HF.out rfl ?_ rfl rfl ?_ ?_
        rotate_left
        · intro w' hF; have f10 := hF.2.1.cells.cell0; have f11 := hF.2.1.cells.cell1; have f12 := hF.2.1.cells.cell2; have f13 := hF.2.1.cells.cell3; have f14 := hF.2.1.cells.cell4; simp only [Nat.zero_add] at f11 f12 f13 f14; have f20 := hF.2.2.cells.cell0; have f21 := hF.2.2.cells.cell1; have f22 := hF.2.2.cells.cell2; have f23 := hF.2.2.cells.cell3; have f24 := hF.2.2.cells.cell4; simp only [Nat.zero_add] at f21 f22 f23 f24; clear hF; go_simp; try rfl
        rotate_left
        · simp only [Act.put]; exact rfl
        refine Calm.takeL 6 (i := 3) (v := ?_) (a' := ?_) (l' := #[true, true, true, true, false, false]) (d := some 14) (by kernel_rfl) rfl (by kernel_rfl) (by kernel_rfl) (by kernel_rfl) (by kernel_rfl) (fun _ _ _ h => h) HF.out rfl ?_ rfl rfl ?_ ?_
        rotate_left
        · intro w' hF; clear hF; go_simp; try rfl
        rotate_left
        · simp only [Act.put]; exact rfl
        refine Calm.one (i := 4) (l' := #[true, true, true, true, true, false]) (by kernel_rfl) rfl rfl rfl fun K hK => ?_
        have r0 := RX.out.cells.cell0
        have r1 := RX.out.cells.cell1
        have r2 := RX.out.cells.cell2
        have r3 := RX.out.cells.cell3
        have r4 := RX.out.cells.cell4
        simp only [Nat.zero_add] at r1 r2 r3 r4
        have f0 := RX.out.free 0
        have f1 := RX.out.free 1
        have f2 := RX.out.free 2
        have f3 := RX.out.free 3
        have f4 := RX.out.free 4
        go_simp
        have HF' := hide (And.intro (below_put5 HF.out.1 (show w.heap.size ≤ R by have := ZR.out; omega) (.int .i64 op) (.int .i64 to) (.int .i64 ya) (.int .i64 yb) (.int .i64 yc)) (And.intro (HF.out.2.1.other5 (C := R) (by have := ZR.out; have := ZB0.out; omega) (.int .i64 op) (.int .i64 to) (.int .i64 ya) (.int .i64 yb) (.int .i64 yc)) (HF.out.2.2.other5 (C := R) (by have := LB.out; omega) (.int .i64 op) (.int .i64 to) (.int .i64 ya) (.int .i64 yb) (.int .i64 yc))))
        replace RX := hide (RX.out.put ⟨op, to, ya, yb, yc⟩)
        refine hK _ _ (fun _ => HF'.out) ?_
        clear hK K HF r0 r1 r2 r3 r4 f0 f1 f2 f3 f4
        have HF := hide HF'.out
        clear HF'
        generalize (((((w4d.setCell ⟨R, 0, none⟩ (.int .i64 op)).setCell ⟨R, 1, none⟩ (.int .i64 to)).setCell ⟨R, 2, none⟩ (.int .i64 ya)).setCell ⟨R, 3, none⟩ (.int .i64 yb)).setCell ⟨R, 4, none⟩ (.int .i64 yc)) = w5 at *
        refine Calm.takeL 6 (i := 5) (v := ?_) (a' := ?_) (l' := #[true, true, true, true, true, true]) (d := some 3) (by kernel_rfl) rfl (by kernel_rfl) (by kernel_rfl) (by kernel_rfl) (by kernel_rfl) (fun _ _ _ h => h) HF.out rfl ?_ rfl rfl ?_ ?_
        rotate_left
        · intro w' hF; clear hF; go_simp; try rfl
        rotate_left
        · simp only [Act.put]; exact rfl
        refine Calm.done (by kernel_rfl) ?_
        go_wp2
        refine ret_insb rfl R ⟨op, to, ya, yb, yc⟩ rfl RX.out rfl ⟨HRES.out.symm, HF.out.1⟩
      · have qe : (yb == b) = false := by simpa using e
        clear e
        replace e1 := e1.symm
        subst e1
        replace e2 := e2.symm
        subst e2
        replace e3 := e3.symm
        subst e3
        go_enter Tryd.func6, Tryd.ntmps6
        go_upto_region 1 with fail
        have b1 := below_alloc w (.cells #[.int .i64 op, .int .i64 to, .int .i64 a, .int .i64 b, .int .i64 c] 24)
        have b2 := below_alloc (w.alloc (.cells #[.int .i64 op, .int .i64 to, .int .i64 a, .int .i64 b, .int .i64 c] 24)) (.cells #[.int .i64 0, .int .i64 0, .int .i64 0, .int .i64 0, .int .i64 0] 24)
        have IX0 := ((Box5.new w 24 ⟨op, to, a, b, c⟩).step b2)
        replace IX0 : Hid (Box5 ((w.alloc (.cells #[.int .i64 op, .int .i64 to, .int .i64 a, .int .i64 b, .int .i64 c] 24)).alloc (.cells #[.int .i64 0, .int .i64 0, .int .i64 0, .int .i64 0, .int .i64 0] 24)) (w.heap.size) 24 ⟨op, to, a, b, c⟩) := hide IX0
        have RX := (Box5.new (w.alloc (.cells #[.int .i64 op, .int .i64 to, .int .i64 a, .int .i64 b, .int .i64 c] 24)) 24 ⟨0, 0, 0, 0, 0⟩)
        simp only [World.size_alloc] at RX
        replace RX : Hid (Box5 ((w.alloc (.cells #[.int .i64 op, .int .i64 to, .int .i64 a, .int .i64 b, .int .i64 c] 24)).alloc (.cells #[.int .i64 0, .int .i64 0, .int .i64 0, .int .i64 0, .int .i64 0] 24)) (w.heap.size + 1) 24 ⟨0, 0, 0, 0, 0⟩) := hide RX
        have HB := hide (b1.trans (b2.mono b1.size))
        replace HT := hide ((HT.out.below b1).below b2)
        clear b1 b2
        generalize (w.alloc (.cells #[.int .i64 op, .int .i64 to, .int .i64 a, .int .i64 b, .int .i64 c] 24)).alloc (.cells #[.int .i64 0, .int .i64 0, .int .i64 0, .int .i64 0, .int .i64 0] 24) = w1 at *
        obtain ⟨R, hR⟩ : ∃ B, B = w.heap.size + 1 := ⟨_, rfl⟩
        have ZR := hide hR
        rw [← hR] at RX ⊢
        clear hR
        obtain ⟨B0, hB0⟩ : ∃ B, B = w.heap.size := ⟨_, rfl⟩
        have ZB0 := hide hB0
        rw [← hB0] at IX0 ⊢
        clear hB0
        have k0 := IX0.out.cells.cell0
        have k1 := IX0.out.cells.cell1
        have k2 := IX0.out.cells.cell2
        have k3 := IX0.out.cells.cell3
        have k4 := IX0.out.cells.cell4
        simp only [Nat.zero_add] at k1 k2 k3 k4
        have q0 := RX.out.cells.cell0
        have q1 := RX.out.cells.cell1
        have q2 := RX.out.cells.cell2
        have q3 := RX.out.cells.cell3
        have q4 := RX.out.cells.cell4
        simp only [Nat.zero_add] at q1 q2 q3 q4
        have f0 := RX.out.free 0
        have f1 := RX.out.free 1
        have f2 := RX.out.free 2
        have f3 := RX.out.free 3
        have f4 := RX.out.free 4
        go_wp2_with fail
        refine (fmay_any ⟨op, to, a, b, c⟩ _).mono ?_
        rintro e w2 ⟨rfl, hb⟩
        rw [HMB.out]
        replace IX0 := hide (IX0.out.step hb)
        replace RX := hide (RX.out.step hb)
        replace HT := hide (HT.out.below hb)
        replace HB := hide (HB.out.trans (hb.mono HB.out.size))
        clear hb k0 k1 k2 k3 k4 q0 q1 q2 q3 q4 f0 f1 f2 f3 f4
        have k0 := IX0.out.cells.cell0
        have k1 := IX0.out.cells.cell1
        have k2 := IX0.out.cells.cell2
        have k3 := IX0.out.cells.cell3
        have k4 := IX0.out.cells.cell4
        simp only [Nat.zero_add] at k1 k2 k3 k4
        have q0 := RX.out.cells.cell0
        have q1 := RX.out.cells.cell1
        have q2 := RX.out.cells.cell2
        have q3 := RX.out.cells.cell3
        have q4 := RX.out.cells.cell4
        simp only [Nat.zero_add] at q1 q2 q3 q4
        have f0 := RX.out.free 0
        have f1 := RX.out.free 1
        have f2 := RX.out.free 2
        have f3 := RX.out.free 3
        have f4 := RX.out.free 4
        go_wp2_with fail
        refine (CP.out _ HT.out).mono ?_
        rintro e w3 ⟨rfl, hb⟩
        replace IX0 := hide (IX0.out.step hb)
        replace RX := hide (RX.out.step hb)
        replace HB := hide (HB.out.trans (hb.mono HB.out.size))
        clear hb k0 k1 k2 k3 k4 q0 q1 q2 q3 q4 f0 f1 f2 f3 f4
        have LR0 := hide RX.out.lt
        go_upto_region 4 with fail
        have hb := below_alloc w3 (.cells #[.int .i64 op, .int .i64 to, .int .i64 a, .int .i64 yb, .int .i64 yc] 24)
        have BX : Hid (Box5 (w3.alloc (.cells #[.int .i64 op, .int .i64 to, .int .i64 a, .int .i64 yb, .int .i64 yc] 24)) w3.heap.size 24 ⟨op, to, a, yb, yc⟩) := hide (Box5.new w3 24 ⟨op, to, a, yb, yc⟩)
        replace IX0 := hide (IX0.out.step hb)
        replace RX := hide (RX.out.step hb)
        replace HB := hide (HB.out.trans (hb.mono HB.out.size))
        clear hb
        have LB : Hid (R < w3.heap.size) := hide LR0.out
        generalize w3.alloc (.cells #[.int .i64 op, .int .i64 to, .int .i64 a, .int .i64 yb, .int .i64 yc] 24) = w4 at *
        generalize w3.heap.size = B4 at *
        replace RX := hide RX.out.drew
        refine wp_calm (fun w' => Below w.heap.size w w' ∧ Box5 w' B0 24 ⟨op, to, a, b, c⟩ ∧ Box5 w' B4 24 ⟨op, to, a, yb, yc⟩) (fun _ => true) 6 #[false, false, false, false, false, false] (by kernel_rfl) rfl rfl ?_
        have HF := hide (And.intro (HB.out.drew) (And.intro (IX0.out.drew) (BX.out.drew)))
        generalize w4.drew = w4d at *
        refine Calm.takeL 6 (i := 0) (v := ?_) (a' := ?_) (l' := #[true, false, false, false, false, false]) (d := some 11) (by kernel_rfl) rfl (by kernel_rfl) (by kernel_rfl) (by kernel_rfl) (by kernel_rfl) (fun _ _ _ h => h) HF.out rfl ?_ rfl rfl ?_ ?_
        rotate_left
        · intro w' hF; have f10 := hF.2.1.cells.cell0; have f11 := hF.2.1.cells.cell1; have f12 := hF.2.1.cells.cell2; have f13 := hF.2.1.cells.cell3; have f14 := hF.2.1.cells.cell4; simp only [Nat.zero_add] at f11 f12 f13 f14; have f20 := hF.2.2.cells.cell0; have f21 := hF.2.2.cells.cell1; have f22 := hF.2.2.cells.cell2; have f23 := hF.2.2.cells.cell3; have f24 := hF.2.2.cells.cell4; simp only [Nat.zero_add] at f21 f22 f23 f24; clear hF; go_simp; try rfl
        rotate_left
        · simp only [Act.put]; exact rfl
        refine Calm.takeL 6 (i := 1) (v := ?_) (a' := ?_) (l' := #[true, true, false, false, false, false]) (d := some 12) (by kernel_rfl) rfl (by kernel_rfl) (by kernel_rfl) (by kernel_rfl) (by kernel_rfl) (fun _ _ _ h => h) HF.out rfl ?_ rfl rfl ?_ ?_
        rotate_left
        · intro w' hF; have f10 := hF.2.1.cells.cell0; have f11 := hF.2.1.cells.cell1; have f12 := hF.2.1.cells.cell2; have f13 := hF.2.1.cells.cell3; have f14 := hF.2.1.cells.cell4; simp only [Nat.zero_add] at f11 f12 f13 f14; have f20 := hF.2.2.cells.cell0; have f21 := hF.2.2.cells.cell1; have f22 := hF.2.2.cells.cell2; have f23 := hF.2.2.cells.cell3; have f24 := hF.2.2.cells.cell4; simp only [Nat.zero_add] at f21 f22 f23 f24; clear hF; go_simp; try rfl
        rotate_left
        · simp only [Act.put]; exact rfl
        refine Calm.takeL 6 (i := 2) (v := ?_) (a' := ?_) (l' := #[true, true, true, false, false, false]) (d := some 13) (by kernel_rfl) rfl (by kernel_rfl) (by kernel_rfl) (by kernel_rfl) (by kernel_rfl) (fun _ _ _ h => h) HF.out rfl ?_ rfl rfl ?_ ?_
        rotate_left
        · intro w' hF; have f10 := hF.2.1.cells.cell0; have f11 := hF.2.1.cells.cell1; have f12 := hF.2.1.cells.cell2; have f13 := hF.2.1.cells.cell3; have f14 := hF.2.1.cells.cell4; simp only [Nat.zero_add] at f11 f12 f13 f14; have f20 := hF.2.2.cells.cell0; have f21 := hF.2.2.cells.cell1; have f22 := hF.2.2.cells.cell2; have f23 := hF.2.2.cells.cell3; have f24 := hF.2.2.cells.cell4; simp only [Nat.zero_add] at f21 f22 f23 f24; clear hF; go_simp; try rfl
        rotate_left
        · simp only [Act.put]; exact rfl
        refine Calm.takeL 6 (i := 3) (v := ?_) (a' := ?_) (l' := #[true, true, true, true, false, false]) (d := some 14) (by kernel_rfl) rfl (by kernel_rfl) (by kernel_rfl) (by kernel_rfl) (by kernel_rfl) (fun _ _ _ h => h) HF.out rfl ?_ rfl rfl ?_ ?_
        rotate_left
        · intro w' hF; clear hF; go_simp; try rfl
        rotate_left
        · simp only [Act.put]; exact rfl
        refine Calm.one (i := 4) (l' := #[true, true, true, true, true, false]) (by kernel_rfl) rfl rfl rfl fun K hK => ?_
        have r0 := RX.out.cells.cell0
        have r1 := RX.out.cells.cell1
        have r2 := RX.out.cells.cell2
        have r3 := RX.out.cells.cell3
        have r4 := RX.out.cells.cell4
        simp only [Nat.zero_add] at r1 r2 r3 r4
        have f0 := RX.out.free 0
        have f1 := RX.out.free 1
        have f2 := RX.out.free 2
        have f3 := RX.out.free 3
        have f4 := RX.out.free 4
        go_simp
        have HF' := hide (And.intro (below_put5 HF.out.1 (show w.heap.size ≤ R by have := ZR.out; omega) (.int .i64 op) (.int .i64 to) (.int .i64 a) (.int .i64 yb) (.int .i64 yc)) (And.intro (HF.out.2.1.other5 (C := R) (by have := ZR.out; have := ZB0.out; omega) (.int .i64 op) (.int .i64 to) (.int .i64 a) (.int .i64 yb) (.int .i64 yc)) (HF.out.2.2.other5 (C := R) (by have := LB.out; omega) (.int .i64 op) (.int .i64 to) (.int .i64 a) (.int .i64 yb) (.int .i64 yc))))
        replace RX := hide (RX.out.put ⟨op, to, a, yb, yc⟩)
        refine hK _ _ (fun _ => HF'.out) ?_
        clear hK K HF r0 r1 r2 r3 r4 f0 f1 f2 f3 f4
        have HF := hide HF'.out
        clear HF'
        generalize (((((w4d.setCell ⟨R, 0, none⟩ (.int .i64 op)).setCell ⟨R, 1, none⟩ (.int .i64 to)).setCell ⟨R, 2, none⟩ (.int .i64 a)).setCell ⟨R, 3, none⟩ (.int .i64 yb)).setCell ⟨R, 4, none⟩ (.int .i64 yc)) = w5 at *
        refine Calm.takeL 6 (i := 5) (v := ?_) (a' := ?_) (l' := #[true, true, true, true, true, true]) (d := some 3) (by kernel_rfl) rfl (by kernel_rfl) (by kernel_rfl) (by kernel_rfl) (by kernel_rfl) (fun _ _ _ h => h) HF.out rfl ?_ rfl rfl ?_ ?_
        rotate_left
        · intro w' hF; clear hF; go_simp; try rfl
        rotate_left
        · simp only [Act.put]; exact rfl
        refine Calm.done (by kernel_rfl) ?_
        go_wp2
        refine ret_insb rfl R ⟨op, to, a, yb, yc⟩ rfl RX.out rfl ⟨HRES.out.symm, HF.out.1⟩
      · have qe : (yc == c) = false := by simpa using e
        clear e
        replace e1 := e1.symm
        subst e1
        replace e2 := e2.symm
        subst e2
        replace e3 := e3.symm
        subst e3
        replace e4 := e4.symm
        subst e4
        go_enter Tryd.func6, Tryd.ntmps6
        go_upto_region 1 with fail
        have b1 := below_alloc w (.cells #[.int .i64 op, .int .i64 to, .int .i64 a, .int .i64 b, .int .i64 c] 24)
        have b2 := below_alloc (w.alloc (.cells #[.int .i64 op, .int .i64 to, .int .i64 a, .int .i64 b, .int .i64 c] 24)) (.cells #[.int .i64 0, .int .i64 0, .int .i64 0, .int .i64 0, .int .i64 0] 24)
        have IX0 := ((Box5.new w 24 ⟨op, to, a, b, c⟩).step b2)
        replace IX0 : Hid (Box5 ((w.alloc (.cells #[.int .i64 op, .int .i64 to, .int .i64 a, .int .i64 b, .int .i64 c] 24)).alloc (.cells #[.int .i64 0, .int .i64 0, .int .i64 0, .int .i64 0, .int .i64 0] 24)) (w.heap.size) 24 ⟨op, to, a, b, c⟩) := hide IX0
        have RX := (Box5.new (w.alloc (.cells #[.int .i64 op, .int .i64 to, .int .i64 a, .int .i64 b, .int .i64 c] 24)) 24 ⟨0, 0, 0, 0, 0⟩)
        simp only [World.size_alloc] at RX
        replace RX : Hid (Box5 ((w.alloc (.cells #[.int .i64 op, .int .i64 to, .int .i64 a, .int .i64 b, .int .i64 c] 24)).alloc (.cells #[.int .i64 0, .int .i64 0, .int .i64 0, .int .i64 0, .int .i64 0] 24)) (w.heap.size + 1) 24 ⟨0, 0, 0, 0, 0⟩) := hide RX
        have HB := hide (b1.trans (b2.mono b1.size))
        replace HT := hide ((HT.out.below b1).below b2)
        clear b1 b2
        generalize (w.alloc (.cells #[.int .i64 op, .int .i64 to, .int .i64 a, .int .i64 b, .int .i64 c] 24)).alloc (.cells #[.int .i64 0, .int .i64 0, .int .i64 0, .int .i64 0, .int .i64 0] 24) = w1 at *
        obtain ⟨R, hR⟩ : ∃ B, B = w.heap.size + 1 := ⟨_, rfl⟩
        have ZR := hide hR
        rw [← hR] at RX ⊢
        clear hR
        obtain ⟨B0, hB0⟩ : ∃ B, B = w.heap.size := ⟨_, rfl⟩
        have ZB0 := hide hB0
        rw [← hB0] at IX0 ⊢
        clear hB0
        have k0 := IX0.out.cells.cell0
        have k1 := IX0.out.cells.cell1
        have k2 := IX0.out.cells.cell2
        have k3 := IX0.out.cells.cell3
        have k4 := IX0.out.cells.cell4
        simp only [Nat.zero_add] at k1 k2 k3 k4
        have q0 := RX.out.cells.cell0
        have q1 := RX.out.cells.cell1
        have q2 := RX.out.cells.cell2
        have q3 := RX.out.cells.cell3
        have q4 := RX.out.cells.cell4
        simp only [Nat.zero_add] at q1 q2 q3 q4
        have f0 := RX.out.free 0
        have f1 := RX.out.free 1
        have f2 := RX.out.free 2
        have f3 := RX.out.free 3
        have f4 := RX.out.free 4
        go_wp2_with fail
        refine (fmay_any ⟨op, to, a, b, c⟩ _).mono ?_
        rintro e w2 ⟨rfl, hb⟩
        rw [HMB.out]
        replace IX0 := hide (IX0.out.step hb)
        replace RX := hide (RX.out.step hb)
        replace HT := hide (HT.out.below hb)
        replace HB := hide (HB.out.trans (hb.mono HB.out.size))
        clear hb k0 k1 k2 k3 k4 q0 q1 q2 q3 q4 f0 f1 f2 f3 f4
        have k0 := IX0.out.cells.cell0
        have k1 := IX0.out.cells.cell1
        have k2 := IX0.out.cells.cell2
        have k3 := IX0.out.cells.cell3
        have k4 := IX0.out.cells.cell4
        simp only [Nat.zero_add] at k1 k2 k3 k4
        have q0 := RX.out.cells.cell0
        have q1 := RX.out.cells.cell1
        have q2 := RX.out.cells.cell2
        have q3 := RX.out.cells.cell3
        have q4 := RX.out.cells.cell4
        simp only [Nat.zero_add] at q1 q2 q3 q4
        have f0 := RX.out.free 0
        have f1 := RX.out.free 1
        have f2 := RX.out.free 2
        have f3 := RX.out.free 3
        have f4 := RX.out.free 4
        go_wp2_with fail
        refine (CP.out _ HT.out).mono ?_
        rintro e w3 ⟨rfl, hb⟩
        replace IX0 := hide (IX0.out.step hb)
        replace RX := hide (RX.out.step hb)
        replace HB := hide (HB.out.trans (hb.mono HB.out.size))
        clear hb k0 k1 k2 k3 k4 q0 q1 q2 q3 q4 f0 f1 f2 f3 f4
        have LR0 := hide RX.out.lt
        go_upto_region 4 with fail
        have hb := below_alloc w3 (.cells #[.int .i64 op, .int .i64 to, .int .i64 a, .int .i64 b, .int .i64 yc] 24)
        have BX : Hid (Box5 (w3.alloc (.cells #[.int .i64 op, .int .i64 to, .int .i64 a, .int .i64 b, .int .i64 yc] 24)) w3.heap.size 24 ⟨op, to, a, b, yc⟩) := hide (Box5.new w3 24 ⟨op, to, a, b, yc⟩)
        replace IX0 := hide (IX0.out.step hb)
        replace RX := hide (RX.out.step hb)
        replace HB := hide (HB.out.trans (hb.mono HB.out.size))
        clear hb
        have LB : Hid (R < w3.heap.size) := hide LR0.out
        generalize w3.alloc (.cells #[.int .i64 op, .int .i64 to, .int .i64 a, .int .i64 b, .int .i64 yc] 24) = w4 at *
        generalize w3.heap.size = B4 at *
        replace RX := hide RX.out.drew
        refine wp_calm (fun w' => Below w.heap.size w w' ∧ Box5 w' B0 24 ⟨op, to, a, b, c⟩ ∧ Box5 w' B4 24 ⟨op, to, a, b, yc⟩) (fun _ => true) 6 #[false, false, false, false, false, false] (by kernel_rfl) rfl rfl ?_
        have HF := hide (And.intro (HB.out.drew) (And.intro (IX0.out.drew) (BX.out.drew)))
        generalize w4.drew = w4d at *
        refine Calm.takeL 6 (i := 0) (v := ?_) (a' := ?_) (l' := #[true, false, false, false, false, false]) (d := some 11) (by kernel_rfl) rfl (by kernel_rfl) (by kernel_rfl) (by kernel_rfl) (by kernel_rfl) (fun _ _ _ h => h) HF.out rfl ?_ rfl rfl ?_ ?_
        rotate_left
        · intro w' hF; have f10 := hF.2.1.cells.cell0; have f11 := hF.2.1.cells.cell1; have f12 := hF.2.1.cells.cell2; have f13 := hF.2.1.cells.cell3; have f14 := hF.2.1.cells.cell4; simp only [Nat.zero_add] at f11 f12 f13 f14; have f20 := hF.2.2.cells.cell0; have f21 := hF.2.2.cells.cell1; have f22 := hF.2.2.cells.cell2; have f23 := hF.2.2.cells.cell3; have f24 := hF.2.2.cells.cell4; simp only [Nat.zero_add] at f21 f22 f23 f24; clear hF; go_simp; try rfl
        rotate_left
        · simp only [Act.put]; exact rfl
        refine Calm.takeL 6 (i := 1) (v := ?_) (a' := ?_) (l' := #[true, true, false, false, false, false]) (d := some 12) (by kernel_rfl) rfl (by kernel_rfl) (by kernel_rfl) (by kernel_rfl) (by kernel_rfl) (fun _ _ _ h => h) HF.out rfl ?_ rfl rfl ?_ ?_
        rotate_left
        · intro w' hF; have f10 := hF.2.1.cells.cell0; have f11 := hF.2.1.cells.cell1; have f12 := hF.2.1.cells.cell2; have f13 := hF.2.1.cells.cell3; have f14 := hF.2.1.cells.cell4; simp only [Nat.zero_add] at f11 f12 f13 f14; have f20 := hF.2.2.cells.cell0; have f21 := hF.2.2.cells.cell1; have f22 := hF.2.2.cells.cell2; have f23 := hF.2.2.cells.cell3; have f24 := hF.2.2.cells.cell4; simp only [Nat.zero_add] at f21 f22 f23 f24; clear hF; go_simp; try rfl
        rotate_left
        · simp only [Act.put]; exact rfl
        refine Calm.takeL 6 (i := 2) (v := ?_) (a' := ?_) (l' := #[true, true, true, false, false, false]) (d := some 13) (by kernel_rfl) rfl (by kernel_rfl) (by kernel_rfl) (by kernel_rfl) (by kernel_rfl) (fun _ _ _ h => h) HF.out rfl ?_ rfl rfl ?_ ?_
        rotate_left
        · intro w' hF; have f10 := hF.2.1.cells.cell0; have f11 := hF.2.1.cells.cell1; have f12 := hF.2.1.cells.cell2; have f13 := hF.2.1.cells.cell3; have f14 := hF.2.1.cells.cell4; simp only [Nat.zero_add] at f11 f12 f13 f14; have f20 := hF.2.2.cells.cell0; have f21 := hF.2.2.cells.cell1; have f22 := hF.2.2.cells.cell2; have f23 := hF.2.2.cells.cell3; have f24 := hF.2.2.cells.cell4; simp only [Nat.zero_add] at f21 f22 f23 f24; clear hF; go_simp; try rfl
        rotate_left
        · simp only [Act.put]; exact rfl
        refine Calm.takeL 6 (i := 3) (v := ?_) (a' := ?_) (l' := #[true, true, true, true, false, false]) (d := some 14) (by kernel_rfl) rfl (by kernel_rfl) (by kernel_rfl) (by kernel_rfl) (by kernel_rfl) (fun _ _ _ h => h) HF.out rfl ?_ rfl rfl ?_ ?_
        rotate_left
        · intro w' hF; clear hF; go_simp; try rfl
        rotate_left
        · simp only [Act.put]; exact rfl
        refine Calm.one (i := 4) (l' := #[true, true, true, true, true, false]) (by kernel_rfl) rfl rfl rfl fun K hK => ?_
        have r0 := RX.out.cells.cell0
        have r1 := RX.out.cells.cell1
        have r2 := RX.out.cells.cell2
        have r3 := RX.out.cells.cell3
        have r4 := RX.out.cells.cell4
        simp only [Nat.zero_add] at r1 r2 r3 r4
        have f0 := RX.out.free 0
        have f1 := RX.out.free 1
        have f2 := RX.out.free 2
        have f3 := RX.out.free 3
        have f4 := RX.out.free 4
        go_simp
        have HF' := hide (And.intro (below_put5 HF.out.1 (show w.heap.size ≤ R by have := ZR.out; omega) (.int .i64 op) (.int .i64 to) (.int .i64 a) (.int .i64 b) (.int .i64 yc)) (And.intro (HF.out.2.1.other5 (C := R) (by have := ZR.out; have := ZB0.out; omega) (.int .i64 op) (.int .i64 to) (.int .i64 a) (.int .i64 b) (.int .i64 yc)) (HF.out.2.2.other5 (C := R) (by have := LB.out; omega) (.int .i64 op) (.int .i64 to) (.int .i64 a) (.int .i64 b) (.int .i64 yc))))
        replace RX := hide (RX.out.put ⟨op, to, a, b, yc⟩)
        refine hK _ _ (fun _ => HF'.out) ?_
        clear hK K HF r0 r1 r2 r3 r4 f0 f1 f2 f3 f4
        have HF := hide HF'.out
        clear HF'
        generalize (((((w4d.setCell ⟨R, 0, none⟩ (.int .i64 op)).setCell ⟨R, 1, none⟩ (.int .i64 to)).setCell ⟨R, 2, none⟩ (.int .i64 a)).setCell ⟨R, 3, none⟩ (.int .i64 b)).setCell ⟨R, 4, none⟩ (.int .i64 yc)) = w5 at *
        refine Calm.takeL 6 (i := 5) (v := ?_) (a' := ?_) (l' := #[true, true, true, true, true, true]) (d := some 3) (by kernel_rfl) rfl (by kernel_rfl) (by kernel_rfl) (by kernel_rfl) (by kernel_rfl) (fun _ _ _ h => h) HF.out rfl ?_ rfl rfl ?_ ?_
        rotate_left
        · intro w' hF; clear hF; go_simp; try rfl
        rotate_left
        · simp only [Act.put]; exact rfl
        refine Calm.done (by kernel_rfl) ?_
        go_wp2
        refine ret_insb rfl R ⟨op, to, a, b, yc⟩ rfl RX.out rfl ⟨HRES.out.symm, HF.out.1⟩
set_option maxRecDepth 100000 in
set_option maxHeartbeats 8000000 in
theorem Melt_any (i j : Ins) (w : World) (hT : TabW64 w) :
    Calls Tryd.prog 7 #[.agg #[.int .i64 i.op, .int .i64 i.to, .int .i64 i.a, .int .i64 i.b, .int .i64 i.c], .agg #[.int .i64 j.op, .int .i64 j.to, .int .i64 j.a, .int .i64 j.b, .int .i64 j.c]] w fun e w' => e = mlE (meT i j) ∧ Below w.heap.size w w' := by
  have HT := hide hT
  clear hT
  obtain ⟨ao, t1, aa, ab, ac⟩ := i
  obtain ⟨bo, t2, ba, bb, bc⟩ := j
  dsimp only
  generalize hG : meT ⟨ao, t1, aa, ab, ac⟩ ⟨bo, t2, ba, bb, bc⟩ = G
  have HG := hide hG
  clear hG
  go_enter Tryd.func7, Tryd.ntmps7
  go_upto_region 1 with fail
  have b1 := below_alloc w (.cells #[.int .i64 ao, .int .i64 t1, .int .i64 aa, .int .i64 ab, .int .i64 ac] 24)
  have b2 := below_alloc (w.alloc (.cells #[.int .i64 ao, .int .i64 t1, .int .i64 aa, .int .i64 ab, .int .i64 ac] 24)) (.cells #[.int .i64 bo, .int .i64 t2, .int .i64 ba, .int .i64 bb, .int .i64 bc] 24)
  have b3 := below_alloc ((w.alloc (.cells #[.int .i64 ao, .int .i64 t1, .int .i64 aa, .int .i64 ab, .int .i64 ac] 24)).alloc (.cells #[.int .i64 bo, .int .i64 t2, .int .i64 ba, .int .i64 bb, .int .i64 bc] 24)) (.cells #[.int .i64 0, .int .i64 0, .int .i64 0, .int .i64 0, .int .i64 0] 24)
  have IX0 := (((Box5.new w 24 ⟨ao, t1, aa, ab, ac⟩).step b2).step b3)
  replace IX0 : Hid (Box5 (((w.alloc (.cells #[.int .i64 ao, .int .i64 t1, .int .i64 aa, .int .i64 ab, .int .i64 ac] 24)).alloc (.cells #[.int .i64 bo, .int .i64 t2, .int .i64 ba, .int .i64 bb, .int .i64 bc] 24)).alloc (.cells #[.int .i64 0, .int .i64 0, .int .i64 0, .int .i64 0, .int .i64 0] 24)) (w.heap.size) 24 ⟨ao, t1, aa, ab, ac⟩) := hide IX0
  have IX1 := ((Box5.new (w.alloc (.cells #[.int .i64 ao, .int .i64 t1, .int .i64 aa, .int .i64 ab, .int .i64 ac] 24)) 24 ⟨bo, t2, ba, bb, bc⟩).step b3)
  simp only [World.size_alloc] at IX1
  replace IX1 : Hid (Box5 (((w.alloc (.cells #[.int .i64 ao, .int .i64 t1, .int .i64 aa, .int .i64 ab, .int .i64 ac] 24)).alloc (.cells #[.int .i64 bo, .int .i64 t2, .int .i64 ba, .int .i64 bb, .int .i64 bc] 24)).alloc (.cells #[.int .i64 0, .int .i64 0, .int .i64 0, .int .i64 0, .int .i64 0] 24)) (w.heap.size + 1) 24 ⟨bo, t2, ba, bb, bc⟩) := hide IX1
  have RX := (Box5.new ((w.alloc (.cells #[.int .i64 ao, .int .i64 t1, .int .i64 aa, .int .i64 ab, .int .i64 ac] 24)).alloc (.cells #[.int .i64 bo, .int .i64 t2, .int .i64 ba, .int .i64 bb, .int .i64 bc] 24)) 24 ⟨0, 0, 0, 0, 0⟩)
  simp only [World.size_alloc] at RX
  replace RX : Hid (Box5 (((w.alloc (.cells #[.int .i64 ao, .int .i64 t1, .int .i64 aa, .int .i64 ab, .int .i64 ac] 24)).alloc (.cells #[.int .i64 bo, .int .i64 t2, .int .i64 ba, .int .i64 bb, .int .i64 bc] 24)).alloc (.cells #[.int .i64 0, .int .i64 0, .int .i64 0, .int .i64 0, .int .i64 0] 24)) (w.heap.size + 1 + 1) 24 ⟨0, 0, 0, 0, 0⟩) := hide RX
  have HB := hide ((b1.trans (b2.mono b1.size)).trans (b3.mono (b1.trans (b2.mono b1.size)).size))
  replace HT := hide (((HT.out.below b1).below b2).below b3)
  clear b1 b2 b3
  generalize ((w.alloc (.cells #[.int .i64 ao, .int .i64 t1, .int .i64 aa, .int .i64 ab, .int .i64 ac] 24)).alloc (.cells #[.int .i64 bo, .int .i64 t2, .int .i64 ba, .int .i64 bb, .int .i64 bc] 24)).alloc (.cells #[.int .i64 0, .int .i64 0, .int .i64 0, .int .i64 0, .int .i64 0] 24) = w1 at *
  obtain ⟨R, hR⟩ : ∃ B, B = w.heap.size + 1 + 1 := ⟨_, rfl⟩
  have ZR := hide hR
  try rw [show w.heap.size + 2 = w.heap.size + 1 + 1 from rfl]
  rw [← hR] at RX ⊢
  clear hR
  obtain ⟨B1, hB1⟩ : ∃ B, B = w.heap.size + 1 := ⟨_, rfl⟩
  have ZB1 := hide hB1
  rw [← hB1] at IX1 ⊢
  clear hB1
  obtain ⟨B0, hB0⟩ : ∃ B, B = w.heap.size := ⟨_, rfl⟩
  have ZB0 := hide hB0
  rw [← hB0] at IX0 ⊢
  clear hB0
  have k0 := IX0.out.cells.cell0
  have k1 := IX0.out.cells.cell1
  have k2 := IX0.out.cells.cell2
  have k3 := IX0.out.cells.cell3
  have k4 := IX0.out.cells.cell4
  simp only [Nat.zero_add] at k1 k2 k3 k4
  have l0 := IX1.out.cells.cell0
  have l1 := IX1.out.cells.cell1
  have l2 := IX1.out.cells.cell2
  have l3 := IX1.out.cells.cell3
  have l4 := IX1.out.cells.cell4
  simp only [Nat.zero_add] at l1 l2 l3 l4
  have q0 := RX.out.cells.cell0
  have q1 := RX.out.cells.cell1
  have q2 := RX.out.cells.cell2
  have q3 := RX.out.cells.cell3
  have q4 := RX.out.cells.cell4
  simp only [Nat.zero_add] at q1 q2 q3 q4
  have f0 := RX.out.free 0
  have f1 := RX.out.free 1
  have f2 := RX.out.free 2
  have f3 := RX.out.free 3
  have f4 := RX.out.free 4
  go_wp2_with fail
  refine (isPlain_any ⟨ao, t1, aa, ab, ac⟩ _ HT.out).mono ?_
  rintro e w2 ⟨rfl, hb⟩
  replace IX0 := hide (IX0.out.step hb)
  replace IX1 := hide (IX1.out.step hb)
  replace RX := hide (RX.out.step hb)
  replace HT := hide (HT.out.below hb)
  replace HB := hide (HB.out.trans (hb.mono HB.out.size))
  clear hb k0 k1 k2 k3 k4 l0 l1 l2 l3 l4 q0 q1 q2 q3 q4 f0 f1 f2 f3 f4
  have k0 := IX0.out.cells.cell0
  have k1 := IX0.out.cells.cell1
  have k2 := IX0.out.cells.cell2
  have k3 := IX0.out.cells.cell3
  have k4 := IX0.out.cells.cell4
  simp only [Nat.zero_add] at k1 k2 k3 k4
  have l0 := IX1.out.cells.cell0
  have l1 := IX1.out.cells.cell1
  have l2 := IX1.out.cells.cell2
  have l3 := IX1.out.cells.cell3
  have l4 := IX1.out.cells.cell4
  simp only [Nat.zero_add] at l1 l2 l3 l4
  have q0 := RX.out.cells.cell0
  have q1 := RX.out.cells.cell1
  have q2 := RX.out.cells.cell2
  have q3 := RX.out.cells.cell3
  have q4 := RX.out.cells.cell4
  simp only [Nat.zero_add] at q1 q2 q3 q4
  have f0 := RX.out.free 0
  have f1 := RX.out.free 1
  have f2 := RX.out.free 2
  have f3 := RX.out.free 3
  have f4 := RX.out.free 4
  cases h1 : plB ⟨ao, t1, aa, ab, ac⟩ with
  | false =>
    have HRES : Hid (G = none) := hide (by rw [← HG.out]; unfold meT; rw [h1]; rfl)
    go_wp2
    refine ret_insb rfl R ⟨0, 0, 0, 0, 0⟩ rfl (RX.out.put ⟨0, 0, 0, 0, 0⟩) rfl ⟨by rw [HRES.out]; rfl, ?_⟩
    exact below_put5 HB.out (by have := ZR.out; omega) _ _ _ _ _
  | true =>
    go_wp2_with fail
    refine (isPlain_any ⟨bo, t2, ba, bb, bc⟩ _ HT.out).mono ?_
    rintro e w3 ⟨rfl, hb⟩
    replace IX0 := hide (IX0.out.step hb)
    replace IX1 := hide (IX1.out.step hb)
    replace RX := hide (RX.out.step hb)
    replace HT := hide (HT.out.below hb)
    replace HB := hide (HB.out.trans (hb.mono HB.out.size))
    clear hb k0 k1 k2 k3 k4 l0 l1 l2 l3 l4 q0 q1 q2 q3 q4 f0 f1 f2 f3 f4
    have k0 := IX0.out.cells.cell0
    have k1 := IX0.out.cells.cell1
    have k2 := IX0.out.cells.cell2
    have k3 := IX0.out.cells.cell3
    have k4 := IX0.out.cells.cell4
    simp only [Nat.zero_add] at k1 k2 k3 k4
    have l0 := IX1.out.cells.cell0
    have l1 := IX1.out.cells.cell1
    have l2 := IX1.out.cells.cell2
    have l3 := IX1.out.cells.cell3
    have l4 := IX1.out.cells.cell4
    simp only [Nat.zero_add] at l1 l2 l3 l4
    have q0 := RX.out.cells.cell0
    have q1 := RX.out.cells.cell1
    have q2 := RX.out.cells.cell2
    have q3 := RX.out.cells.cell3
    have q4 := RX.out.cells.cell4
    simp only [Nat.zero_add] at q1 q2 q3 q4
    have f0 := RX.out.free 0
    have f1 := RX.out.free 1
    have f2 := RX.out.free 2
    have f3 := RX.out.free 3
    have f4 := RX.out.free 4
    cases h2 : plB ⟨bo, t2, ba, bb, bc⟩ with
    | false =>
      have HRES : Hid (G = none) := hide (by rw [← HG.out]; unfold meT; rw [h1, h2]; rfl)
      go_wp2
      refine ret_insb rfl R ⟨0, 0, 0, 0, 0⟩ rfl (RX.out.put ⟨0, 0, 0, 0, 0⟩) rfl ⟨by rw [HRES.out]; rfl, ?_⟩
      exact below_put5 HB.out (by have := ZR.out; omega) _ _ _ _ _
    | true =>
      have HRES : Hid (G = meI ⟨ao, t1, aa, ab, ac⟩ ⟨bo, t2, ba, bb, bc⟩) := hide (by rw [← HG.out]; unfold meT; rw [h1, h2]; rfl)
      have M1 := hide (plB_may h1)
      have M2 := hide (plB_may h2)
      clear h1 h2
      go_wp2_with fail
      refine (melted_any ⟨ao, t1, aa, ab, ac⟩ ⟨bo, t2, ba, bb, bc⟩ _ M1.out M2.out HT.out).mono ?_
      rintro e w4 ⟨rfl, hb⟩
      rw [← HRES.out]
      replace IX0 := hide (IX0.out.step hb)
      replace IX1 := hide (IX1.out.step hb)
      replace RX := hide (RX.out.step hb)
      replace HB := hide (HB.out.trans (hb.mono HB.out.size))
      clear hb k0 k1 k2 k3 k4 l0 l1 l2 l3 l4 q0 q1 q2 q3 q4 f0 f1 f2 f3 f4
      have k0 := IX0.out.cells.cell0
      have k1 := IX0.out.cells.cell1
      have k2 := IX0.out.cells.cell2
      have k3 := IX0.out.cells.cell3
      have k4 := IX0.out.cells.cell4
      simp only [Nat.zero_add] at k1 k2 k3 k4
      have l0 := IX1.out.cells.cell0
      have l1 := IX1.out.cells.cell1
      have l2 := IX1.out.cells.cell2
      have l3 := IX1.out.cells.cell3
      have l4 := IX1.out.cells.cell4
      simp only [Nat.zero_add] at l1 l2 l3 l4
      have q0 := RX.out.cells.cell0
      have q1 := RX.out.cells.cell1
      have q2 := RX.out.cells.cell2
      have q3 := RX.out.cells.cell3
      have q4 := RX.out.cells.cell4
      simp only [Nat.zero_add] at q1 q2 q3 q4
      have f0 := RX.out.free 0
      have f1 := RX.out.free 1
      have f2 := RX.out.free 2
      have f3 := RX.out.free 3
      have f4 := RX.out.free 4
      unfold mlE
      go_wp2
      refine ret_insb rfl R (mlV G) rfl (RX.out.put (mlV G)) rfl ⟨rfl, ?_⟩
      exact below_put5 HB.out (by have := ZR.out; omega) _ _ _ _ _
end Go.Proofs.YtgkpdeabcijokaaDoor
