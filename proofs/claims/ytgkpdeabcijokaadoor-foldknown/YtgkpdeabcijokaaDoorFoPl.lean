/- fold.instead, doesNothing, plainFactor, plain: the plain form of an instruction. -/
import Derived.Test.YtgkpdeabcijokaaDoorFoBits
import Derived.Test.YtgkpdeabcijokaaDoorPgCnt
namespace Go.Proofs.YtgkpdeabcijokaaDoor
open Go.RowKit

set_option maxRecDepth 100000 in
set_option maxHeartbeats 4000000 in
theorem instead_any (i : Ins) (op c : Int) (w : World) :
    Calls Tryd.prog 18 #[.agg #[.int .i64 i.op, .int .i64 i.to, .int .i64 i.a, .int .i64 i.b, .int .i64 i.c], .int .i64 op, .int .i64 c] w fun e w' => e = .returned (.agg #[.int .i64 op, .int .i64 i.to, .int .i64 i.a, .int .i64 0, .int .i64 c]) ∧ Below w.heap.size w w' := by
  go_enter Tryd.func18, Tryd.ntmps18
  go_upto_region 1 with fail
  have b1 := below_alloc w (.cells #[.int .i64 i.op, .int .i64 i.to, .int .i64 i.a, .int .i64 i.b, .int .i64 i.c] 24)
  have b2 := below_alloc (w.alloc (.cells #[.int .i64 i.op, .int .i64 i.to, .int .i64 i.a, .int .i64 i.b, .int .i64 i.c] 24)) (.cells #[.int .i64 0, .int .i64 0, .int .i64 0, .int .i64 0, .int .i64 0] 24)
  have IX0 := ((Box5.new w 24 i).step b2)
  replace IX0 : Hid (Box5 ((w.alloc (.cells #[.int .i64 i.op, .int .i64 i.to, .int .i64 i.a, .int .i64 i.b, .int .i64 i.c] 24)).alloc (.cells #[.int .i64 0, .int .i64 0, .int .i64 0, .int .i64 0, .int .i64 0] 24)) (w.heap.size) 24 i) := hide IX0
  have RX := (Box5.new (w.alloc (.cells #[.int .i64 i.op, .int .i64 i.to, .int .i64 i.a, .int .i64 i.b, .int .i64 i.c] 24)) 24 ⟨0, 0, 0, 0, 0⟩)
  simp only [World.size_alloc] at RX
  replace RX : Hid (Box5 ((w.alloc (.cells #[.int .i64 i.op, .int .i64 i.to, .int .i64 i.a, .int .i64 i.b, .int .i64 i.c] 24)).alloc (.cells #[.int .i64 0, .int .i64 0, .int .i64 0, .int .i64 0, .int .i64 0] 24)) (w.heap.size + 1) 24 ⟨0, 0, 0, 0, 0⟩) := hide RX
  have HB := hide (b1.trans (b2.mono b1.size))
  clear b1 b2
  generalize (w.alloc (.cells #[.int .i64 i.op, .int .i64 i.to, .int .i64 i.a, .int .i64 i.b, .int .i64 i.c] 24)).alloc (.cells #[.int .i64 0, .int .i64 0, .int .i64 0, .int .i64 0, .int .i64 0] 24) = w1 at *
  obtain ⟨R, hR⟩ : ∃ B, B = w.heap.size + 1 := ⟨_, rfl⟩
  have ZR := hide hR
  rw [← hR] at RX ⊢
  clear hR
  obtain ⟨B0, hB0⟩ : ∃ B, B = w.heap.size := ⟨_, rfl⟩
  have ZB0 := hide hB0
  rw [← hB0] at IX0 ⊢
  clear hB0
  have k0 := IX0.out.cells.cell0
  have k1 := IX0.out.cells.cell1
  have k2 := IX0.out.cells.cell2
  have k3 := IX0.out.cells.cell3
  have k4 := IX0.out.cells.cell4
  simp only [Nat.zero_add] at k1 k2 k3 k4
  have q0 := RX.out.cells.cell0
  have q1 := RX.out.cells.cell1
  have q2 := RX.out.cells.cell2
  have q3 := RX.out.cells.cell3
  have q4 := RX.out.cells.cell4
  simp only [Nat.zero_add] at q1 q2 q3 q4
  have f0 := RX.out.free 0
  have f1 := RX.out.free 1
  have f2 := RX.out.free 2
  have f3 := RX.out.free 3
  have f4 := RX.out.free 4
  go_wp2
  refine ret_ins rfl R ⟨op, i.to, i.a, 0, c⟩ rfl (RX.out.put ⟨op, i.to, i.a, 0, c⟩) rfl ⟨rfl, ?_⟩
  exact below_put5 HB.out (by have := ZR.out; omega) _ _ _ _ _
set_option maxRecDepth 100000 in
set_option maxHeartbeats 4000000 in
theorem nothing_any (i : Ins) (w : World) :
    Calls Tryd.prog 24 #[.agg #[.int .i64 i.op, .int .i64 i.to, .int .i64 i.a, .int .i64 i.b, .int .i64 i.c]] w fun e w' => e = .returned (.bool (noB i)) ∧ Below w.heap.size w w' := by
  obtain ⟨op, to, a, b, c⟩ := i
  unfold noB
  dsimp only
  by_cases h1 : op = 1
  · subst h1
    by_cases h2 : to = a
    · subst h2
      go_enter Tryd.func24, Tryd.ntmps24
      go_wp2
      go_ret
      exact ⟨by simp, below_alloc _ _⟩
    · go_enter Tryd.func24, Tryd.ntmps24
      go_wp2
      go_ret
      exact ⟨by simp [h2], below_alloc _ _⟩
  · go_enter Tryd.func24, Tryd.ntmps24
    go_wp2
    go_ret
    exact ⟨by simp [h1], below_alloc _ _⟩
/-- the plain form of one with a factor, sh standing for the shift -/
def pfI (i : Ins) (sh : Int) : Ins := if i.c = 1 then ⟨1, i.to, i.a, 0, 0⟩ else if i.c = -1 then ⟨2, i.to, i.a, 0, 0⟩ else if 0 < p2 i.c then ⟨sh, i.to, i.a, 0, p2 i.c⟩ else i
set_option maxRecDepth 100000 in
set_option maxHeartbeats 4000000 in
theorem factor_any (i : Ins) (sh : Int) (w : World) (h0 : i.c ≤ 512) (hT : TabW64 w) :
    Calls Tryd.prog 17 #[.agg #[.int .i64 i.op, .int .i64 i.to, .int .i64 i.a, .int .i64 i.b, .int .i64 i.c], .int .i64 sh] w fun e w' => e = .returned (.agg #[.int .i64 (pfI i sh).op, .int .i64 (pfI i sh).to, .int .i64 (pfI i sh).a, .int .i64 (pfI i sh).b, .int .i64 (pfI i sh).c]) ∧ Below w.heap.size w w' := by
  obtain ⟨op, to, a, b, c⟩ := i
  dsimp only at h0 ⊢
  have HT := hide hT
  clear hT
  by_cases h1 : c = 1
  · subst h1
    rw [show pfI ⟨op, to, a, b, 1⟩ sh = ⟨1, to, a, 0, 0⟩ from rfl]
    dsimp only
    go_enter Tryd.func17, Tryd.ntmps17
    go_upto_region 1 with fail
    have b1 := below_alloc w (.cells #[.int .i64 op, .int .i64 to, .int .i64 a, .int .i64 b, .int .i64 1] 24)
    have b2 := below_alloc (w.alloc (.cells #[.int .i64 op, .int .i64 to, .int .i64 a, .int .i64 b, .int .i64 1] 24)) (.cells #[.int .i64 0, .int .i64 0, .int .i64 0, .int .i64 0, .int .i64 0] 24)
    have IX0 := ((Box5.new w 24 ⟨op, to, a, b, 1⟩).step b2)
    replace IX0 : Hid (Box5 ((w.alloc (.cells #[.int .i64 op, .int .i64 to, .int .i64 a, .int .i64 b, .int .i64 1] 24)).alloc (.cells #[.int .i64 0, .int .i64 0, .int .i64 0, .int .i64 0, .int .i64 0] 24)) (w.heap.size) 24 ⟨op, to, a, b, 1⟩) := hide IX0
    have RX := (Box5.new (w.alloc (.cells #[.int .i64 op, .int .i64 to, .int .i64 a, .int .i64 b, .int .i64 1] 24)) 24 ⟨0, 0, 0, 0, 0⟩)
    simp only [World.size_alloc] at RX
    replace RX : Hid (Box5 ((w.alloc (.cells #[.int .i64 op, .int .i64 to, .int .i64 a, .int .i64 b, .int .i64 1] 24)).alloc (.cells #[.int .i64 0, .int .i64 0, .int .i64 0, .int .i64 0, .int .i64 0] 24)) (w.heap.size + 1) 24 ⟨0, 0, 0, 0, 0⟩) := hide RX
    have HB := hide (b1.trans (b2.mono b1.size))
    replace HT := hide ((HT.out.below b1).below b2)
    clear b1 b2
    generalize (w.alloc (.cells #[.int .i64 op, .int .i64 to, .int .i64 a, .int .i64 b, .int .i64 1] 24)).alloc (.cells #[.int .i64 0, .int .i64 0, .int .i64 0, .int .i64 0, .int .i64 0] 24) = w1 at *
    obtain ⟨R, hR⟩ : ∃ B, B = w.heap.size + 1 := ⟨_, rfl⟩
    have ZR := hide hR
    rw [← hR] at RX ⊢
    clear hR
    obtain ⟨B0, hB0⟩ : ∃ B, B = w.heap.size := ⟨_, rfl⟩
    have ZB0 := hide hB0
    rw [← hB0] at IX0 ⊢
    clear hB0
    have k0 := IX0.out.cells.cell0
    have k1 := IX0.out.cells.cell1
    have k2 := IX0.out.cells.cell2
    have k3 := IX0.out.cells.cell3
    have k4 := IX0.out.cells.cell4
    simp only [Nat.zero_add] at k1 k2 k3 k4
    have q0 := RX.out.cells.cell0
    have q1 := RX.out.cells.cell1
    have q2 := RX.out.cells.cell2
    have q3 := RX.out.cells.cell3
    have q4 := RX.out.cells.cell4
    simp only [Nat.zero_add] at q1 q2 q3 q4
    have f0 := RX.out.free 0
    have f1 := RX.out.free 1
    have f2 := RX.out.free 2
    have f3 := RX.out.free 3
    have f4 := RX.out.free 4
    go_wp2_with fail
    refine (instead_any ⟨op, to, a, b, 1⟩ 1 0 _).mono ?_
    rintro e w2 ⟨rfl, hb⟩
    replace IX0 := hide (IX0.out.step hb)
    replace RX := hide (RX.out.step hb)
    replace HB := hide (HB.out.trans (hb.mono HB.out.size))
    clear hb k0 k1 k2 k3 k4 q0 q1 q2 q3 q4 f0 f1 f2 f3 f4
    dsimp only
    have q0 := RX.out.cells.cell0
    have q1 := RX.out.cells.cell1
    have q2 := RX.out.cells.cell2
    have q3 := RX.out.cells.cell3
    have q4 := RX.out.cells.cell4
    simp only [Nat.zero_add] at q1 q2 q3 q4
    have f0 := RX.out.free 0
    have f1 := RX.out.free 1
    have f2 := RX.out.free 2
    have f3 := RX.out.free 3
    have f4 := RX.out.free 4
    go_wp2
    refine ret_ins rfl R ⟨1, to, a, 0, 0⟩ rfl (RX.out.put ⟨1, to, a, 0, 0⟩) rfl ⟨rfl, ?_⟩
    exact below_put5 HB.out (by have := ZR.out; omega) _ _ _ _ _
  by_cases h2 : c = -1
  · subst h2
    rw [show pfI ⟨op, to, a, b, -1⟩ sh = ⟨2, to, a, 0, 0⟩ from rfl]
    dsimp only
    go_enter Tryd.func17, Tryd.ntmps17
    go_upto_region 1 with fail
    have b1 := below_alloc w (.cells #[.int .i64 op, .int .i64 to, .int .i64 a, .int .i64 b, .int .i64 (-1)] 24)
    have b2 := below_alloc (w.alloc (.cells #[.int .i64 op, .int .i64 to, .int .i64 a, .int .i64 b, .int .i64 (-1)] 24)) (.cells #[.int .i64 0, .int .i64 0, .int .i64 0, .int .i64 0, .int .i64 0] 24)
    have IX0 := ((Box5.new w 24 ⟨op, to, a, b, -1⟩).step b2)
    replace IX0 : Hid (Box5 ((w.alloc (.cells #[.int .i64 op, .int .i64 to, .int .i64 a, .int .i64 b, .int .i64 (-1)] 24)).alloc (.cells #[.int .i64 0, .int .i64 0, .int .i64 0, .int .i64 0, .int .i64 0] 24)) (w.heap.size) 24 ⟨op, to, a, b, -1⟩) := hide IX0
    have RX := (Box5.new (w.alloc (.cells #[.int .i64 op, .int .i64 to, .int .i64 a, .int .i64 b, .int .i64 (-1)] 24)) 24 ⟨0, 0, 0, 0, 0⟩)
    simp only [World.size_alloc] at RX
    replace RX : Hid (Box5 ((w.alloc (.cells #[.int .i64 op, .int .i64 to, .int .i64 a, .int .i64 b, .int .i64 (-1)] 24)).alloc (.cells #[.int .i64 0, .int .i64 0, .int .i64 0, .int .i64 0, .int .i64 0] 24)) (w.heap.size + 1) 24 ⟨0, 0, 0, 0, 0⟩) := hide RX
    have HB := hide (b1.trans (b2.mono b1.size))
    replace HT := hide ((HT.out.below b1).below b2)
    clear b1 b2
    generalize (w.alloc (.cells #[.int .i64 op, .int .i64 to, .int .i64 a, .int .i64 b, .int .i64 (-1)] 24)).alloc (.cells #[.int .i64 0, .int .i64 0, .int .i64 0, .int .i64 0, .int .i64 0] 24) = w1 at *
    obtain ⟨R, hR⟩ : ∃ B, B = w.heap.size + 1 := ⟨_, rfl⟩
    have ZR := hide hR
    rw [← hR] at RX ⊢
    clear hR
    obtain ⟨B0, hB0⟩ : ∃ B, B = w.heap.size := ⟨_, rfl⟩
    have ZB0 := hide hB0
    rw [← hB0] at IX0 ⊢
    clear hB0
    have k0 := IX0.out.cells.cell0
    have k1 := IX0.out.cells.cell1
    have k2 := IX0.out.cells.cell2
    have k3 := IX0.out.cells.cell3
    have k4 := IX0.out.cells.cell4
    simp only [Nat.zero_add] at k1 k2 k3 k4
    have q0 := RX.out.cells.cell0
    have q1 := RX.out.cells.cell1
    have q2 := RX.out.cells.cell2
    have q3 := RX.out.cells.cell3
    have q4 := RX.out.cells.cell4
    simp only [Nat.zero_add] at q1 q2 q3 q4
    have f0 := RX.out.free 0
    have f1 := RX.out.free 1
    have f2 := RX.out.free 2
    have f3 := RX.out.free 3
    have f4 := RX.out.free 4
    go_wp2_with fail
    refine (instead_any ⟨op, to, a, b, -1⟩ 2 0 _).mono ?_
    rintro e w2 ⟨rfl, hb⟩
    replace IX0 := hide (IX0.out.step hb)
    replace RX := hide (RX.out.step hb)
    replace HB := hide (HB.out.trans (hb.mono HB.out.size))
    clear hb k0 k1 k2 k3 k4 q0 q1 q2 q3 q4 f0 f1 f2 f3 f4
    dsimp only
    have q0 := RX.out.cells.cell0
    have q1 := RX.out.cells.cell1
    have q2 := RX.out.cells.cell2
    have q3 := RX.out.cells.cell3
    have q4 := RX.out.cells.cell4
    simp only [Nat.zero_add] at q1 q2 q3 q4
    have f0 := RX.out.free 0
    have f1 := RX.out.free 1
    have f2 := RX.out.free 2
    have f3 := RX.out.free 3
    have f4 := RX.out.free 4
    go_wp2
    refine ret_ins rfl R ⟨2, to, a, 0, 0⟩ rfl (RX.out.put ⟨2, to, a, 0, 0⟩) rfl ⟨rfl, ?_⟩
    exact below_put5 HB.out (by have := ZR.out; omega) _ _ _ _ _
  by_cases h3 : 0 < p2 c
  · rw [show pfI ⟨op, to, a, b, c⟩ sh = ⟨sh, to, a, 0, p2 c⟩ by unfold pfI; simp only [if_neg h1, if_neg h2, if_pos h3]]
    dsimp only
    have h4 : 1 < c := by rcases p2_cases h3 with rfl | rfl | rfl | rfl | rfl | rfl | rfl | rfl | rfl <;> decide
    have hw : IntKind.u64.wrap c = c := by rw [IntKind.wrap_u64]; omega
    go_enter Tryd.func17, Tryd.ntmps17
    go_upto_region 1 with fail
    have b1 := below_alloc w (.cells #[.int .i64 op, .int .i64 to, .int .i64 a, .int .i64 b, .int .i64 c] 24)
    have b2 := below_alloc (w.alloc (.cells #[.int .i64 op, .int .i64 to, .int .i64 a, .int .i64 b, .int .i64 c] 24)) (.cells #[.int .i64 0, .int .i64 0, .int .i64 0, .int .i64 0, .int .i64 0] 24)
    have IX0 := ((Box5.new w 24 ⟨op, to, a, b, c⟩).step b2)
    replace IX0 : Hid (Box5 ((w.alloc (.cells #[.int .i64 op, .int .i64 to, .int .i64 a, .int .i64 b, .int .i64 c] 24)).alloc (.cells #[.int .i64 0, .int .i64 0, .int .i64 0, .int .i64 0, .int .i64 0] 24)) (w.heap.size) 24 ⟨op, to, a, b, c⟩) := hide IX0
    have RX := (Box5.new (w.alloc (.cells #[.int .i64 op, .int .i64 to, .int .i64 a, .int .i64 b, .int .i64 c] 24)) 24 ⟨0, 0, 0, 0, 0⟩)
    simp only [World.size_alloc] at RX
    replace RX : Hid (Box5 ((w.alloc (.cells #[.int .i64 op, .int .i64 to, .int .i64 a, .int .i64 b, .int .i64 c] 24)).alloc (.cells #[.int .i64 0, .int .i64 0, .int .i64 0, .int .i64 0, .int .i64 0] 24)) (w.heap.size + 1) 24 ⟨0, 0, 0, 0, 0⟩) := hide RX
    have HB := hide (b1.trans (b2.mono b1.size))
    replace HT := hide ((HT.out.below b1).below b2)
    clear b1 b2
    generalize (w.alloc (.cells #[.int .i64 op, .int .i64 to, .int .i64 a, .int .i64 b, .int .i64 c] 24)).alloc (.cells #[.int .i64 0, .int .i64 0, .int .i64 0, .int .i64 0, .int .i64 0] 24) = w1 at *
    obtain ⟨R, hR⟩ : ∃ B, B = w.heap.size + 1 := ⟨_, rfl⟩
    have ZR := hide hR
    rw [← hR] at RX ⊢
    clear hR
    obtain ⟨B0, hB0⟩ : ∃ B, B = w.heap.size := ⟨_, rfl⟩
    have ZB0 := hide hB0
    rw [← hB0] at IX0 ⊢
    clear hB0
    have k0 := IX0.out.cells.cell0
    have k1 := IX0.out.cells.cell1
    have k2 := IX0.out.cells.cell2
    have k3 := IX0.out.cells.cell3
    have k4 := IX0.out.cells.cell4
    simp only [Nat.zero_add] at k1 k2 k3 k4
    have q0 := RX.out.cells.cell0
    have q1 := RX.out.cells.cell1
    have q2 := RX.out.cells.cell2
    have q3 := RX.out.cells.cell3
    have q4 := RX.out.cells.cell4
    simp only [Nat.zero_add] at q1 q2 q3 q4
    have f0 := RX.out.free 0
    have f1 := RX.out.free 1
    have f2 := RX.out.free 2
    have f3 := RX.out.free 3
    have f4 := RX.out.free 4
    go_wp2_with fail
    refine (ones_any c _ h4 h0).mono ?_
    rintro e w2 ⟨k, rfl, hk, rfl⟩
    have ek : k = 1 := hk.2 h3
    subst ek
    clear hk
    go_upto_region 6 with fail
    clear q0 q1 q2 q3 q4 f0 f1 f2 f3 f4 k0 k1 k2 k3 k4
    refine wp_calm (fun w' => Below w.heap.size w w' ∧ Box5 w' B0 24 ⟨op, to, a, b, c⟩ ∧ Box5 w' R 24 ⟨0, 0, 0, 0, 0⟩ ∧ TabW64 w') (fun j => j != 7) 8 #[false, false, false, false, false, false, false, false] (by kernel_rfl) rfl rfl ?_
    have HF := hide (And.intro (HB.out.drew) (And.intro (IX0.out.drew) (And.intro (RX.out.drew) (HT.out.drew))))
    generalize w2.drew = w2d at *
    refine Calm.takeL 8 (i := 0) (v := ?_) (a' := ?_) (l' := #[true, false, false, false, false, false, false, false]) (d := some 28) (by kernel_rfl) rfl (by kernel_rfl) (by kernel_rfl) (by kernel_rfl) (by kernel_rfl) (fun _ _ _ h => h) HF.out rfl ?_ rfl rfl ?_ ?_
    rotate_left
    · intro w' hF; have f10 := hF.2.1.cells.cell0; have f11 := hF.2.1.cells.cell1; have f12 := hF.2.1.cells.cell2; have f13 := hF.2.1.cells.cell3; have f14 := hF.2.1.cells.cell4; simp only [Nat.zero_add] at f11 f12 f13 f14; have f20 := hF.2.2.1.cells.cell0; have f21 := hF.2.2.1.cells.cell1; have f22 := hF.2.2.1.cells.cell2; have f23 := hF.2.2.1.cells.cell3; have f24 := hF.2.2.1.cells.cell4; simp only [Nat.zero_add] at f21 f22 f23 f24; clear hF; go_simp; try rfl
    rotate_left
    · simp only [Act.put]; exact rfl
    refine Calm.takeL 8 (i := 1) (v := ?_) (a' := ?_) (l' := #[true, true, false, false, false, false, false, false]) (d := some 29) (by kernel_rfl) rfl (by kernel_rfl) (by kernel_rfl) (by kernel_rfl) (by kernel_rfl) (fun _ _ _ h => h) HF.out rfl ?_ rfl rfl ?_ ?_
    rotate_left
    · intro w' hF; clear hF; go_simp; try rfl
    rotate_left
    · simp only [Act.put]; exact rfl
    refine Calm.takeL 8 (i := 2) (v := ?_) (a' := ?_) (l' := #[true, true, true, false, false, false, false, false]) (d := some 30) (by kernel_rfl) rfl (by kernel_rfl) (by kernel_rfl) (by kernel_rfl) (by kernel_rfl) (fun _ _ _ h => h) HF.out rfl ?_ rfl rfl ?_ ?_
    rotate_left
    · intro w' hF; clear hF; go_simp; try rfl
    rotate_left
    · simp only [Act.put]; exact rfl
    refine Calm.takeL 8 (i := 3) (v := ?_) (a' := ?_) (l' := #[true, true, true, true, false, false, false, false]) (d := some 31) (by kernel_rfl) rfl (by kernel_rfl) (by kernel_rfl) (by kernel_rfl) (by kernel_rfl) (fun _ _ _ h => h) HF.out rfl ?_ rfl rfl ?_ ?_
    rotate_left
    · intro w' hF; have f10 := hF.2.1.cells.cell0; have f11 := hF.2.1.cells.cell1; have f12 := hF.2.1.cells.cell2; have f13 := hF.2.1.cells.cell3; have f14 := hF.2.1.cells.cell4; simp only [Nat.zero_add] at f11 f12 f13 f14; have f20 := hF.2.2.1.cells.cell0; have f21 := hF.2.2.1.cells.cell1; have f22 := hF.2.2.1.cells.cell2; have f23 := hF.2.2.1.cells.cell3; have f24 := hF.2.2.1.cells.cell4; simp only [Nat.zero_add] at f21 f22 f23 f24; clear hF; go_simp; try rfl
    rotate_left
    · simp only [Act.put]; exact rfl
    refine Calm.takeL 8 (i := 4) (v := ?_) (a' := ?_) (l' := #[true, true, true, true, true, false, false, false]) (d := some 32) (by kernel_rfl) rfl (by kernel_rfl) (by kernel_rfl) (by kernel_rfl) (by kernel_rfl) (fun _ _ _ h => h) HF.out rfl ?_ rfl rfl ?_ ?_
    rotate_left
    · intro w' hF; clear hF; go_simp; try rfl
    rotate_left
    · simp only [Act.put]; exact rfl
    refine Calm.one (i := 5) (l' := #[true, true, true, true, true, true, false, false]) (by kernel_rfl) rfl rfl rfl fun K hK => ?_
    go_simp
    refine (tz_anyB c _ h3 HF.out.2.2.2).mono ?_
    rintro e u1 ⟨rfl, hb⟩
    have HF' := hide (And.intro (HF.out.1.trans ((hb).mono HF.out.1.size)) (And.intro (HF.out.2.1.step (hb)) (And.intro (HF.out.2.2.1.step (hb)) (HF.out.2.2.2.below (hb)))))
    refine hK _ _ (fun _ => HF'.out) ?_
    clear hK K HF hb
    have HF := hide HF'.out
    clear HF'
    refine Calm.one (i := 6) (l' := #[true, true, true, true, true, true, true, false]) (by kernel_rfl) rfl rfl rfl fun K hK => ?_
    go_simp
    refine (instead_any ⟨op, to, a, b, c⟩ sh (p2 c) _).mono ?_
    rintro e u2 ⟨rfl, hb⟩
    dsimp only
    have HF' := hide (And.intro (HF.out.1.trans ((hb).mono HF.out.1.size)) (And.intro (HF.out.2.1.step (hb)) (And.intro (HF.out.2.2.1.step (hb)) (HF.out.2.2.2.below (hb)))))
    refine hK _ _ (fun _ => HF'.out) ?_
    clear hK K HF hb
    have HF := hide HF'.out
    clear HF'
    refine Calm.one (i := 7) (l' := #[true, true, true, true, true, true, true, true]) (by kernel_rfl) rfl rfl rfl fun K hK => ?_
    have RX := hide HF.out.2.2.1
    have HW := hide HF.out.1
    have r0 := RX.out.cells.cell0
    have r1 := RX.out.cells.cell1
    have r2 := RX.out.cells.cell2
    have r3 := RX.out.cells.cell3
    have r4 := RX.out.cells.cell4
    simp only [Nat.zero_add] at r1 r2 r3 r4
    have f0 := RX.out.free 0
    have f1 := RX.out.free 1
    have f2 := RX.out.free 2
    have f3 := RX.out.free 3
    have f4 := RX.out.free 4
    go_simp
    refine hK _ _ (fun h => absurd h (by decide)) ?_
    clear hK K
    refine Calm.done (by kernel_rfl) ?_
    clear r0 r1 r2 r3 r4 f0 f1 f2 f3 f4
    go_wp2
    refine ret_ins rfl R ⟨sh, to, a, 0, p2 c⟩ rfl (RX.out.put ⟨sh, to, a, 0, p2 c⟩) rfl ⟨rfl, ?_⟩
    exact below_put5 HW.out (by have := ZR.out; omega) _ _ _ _ _
  · rw [show pfI ⟨op, to, a, b, c⟩ sh = ⟨op, to, a, b, c⟩ by unfold pfI; simp only [if_neg h1, if_neg h2, if_neg h3]]
    dsimp only
    by_cases h4 : 1 < c
    · have hw : IntKind.u64.wrap c = c := by rw [IntKind.wrap_u64]; omega
      go_enter Tryd.func17, Tryd.ntmps17
      go_upto_region 1 with fail
      have b1 := below_alloc w (.cells #[.int .i64 op, .int .i64 to, .int .i64 a, .int .i64 b, .int .i64 c] 24)
      have b2 := below_alloc (w.alloc (.cells #[.int .i64 op, .int .i64 to, .int .i64 a, .int .i64 b, .int .i64 c] 24)) (.cells #[.int .i64 0, .int .i64 0, .int .i64 0, .int .i64 0, .int .i64 0] 24)
      have IX0 := ((Box5.new w 24 ⟨op, to, a, b, c⟩).step b2)
      replace IX0 : Hid (Box5 ((w.alloc (.cells #[.int .i64 op, .int .i64 to, .int .i64 a, .int .i64 b, .int .i64 c] 24)).alloc (.cells #[.int .i64 0, .int .i64 0, .int .i64 0, .int .i64 0, .int .i64 0] 24)) (w.heap.size) 24 ⟨op, to, a, b, c⟩) := hide IX0
      have RX := (Box5.new (w.alloc (.cells #[.int .i64 op, .int .i64 to, .int .i64 a, .int .i64 b, .int .i64 c] 24)) 24 ⟨0, 0, 0, 0, 0⟩)
      simp only [World.size_alloc] at RX
      replace RX : Hid (Box5 ((w.alloc (.cells #[.int .i64 op, .int .i64 to, .int .i64 a, .int .i64 b, .int .i64 c] 24)).alloc (.cells #[.int .i64 0, .int .i64 0, .int .i64 0, .int .i64 0, .int .i64 0] 24)) (w.heap.size + 1) 24 ⟨0, 0, 0, 0, 0⟩) := hide RX
      have HB := hide (b1.trans (b2.mono b1.size))
      replace HT := hide ((HT.out.below b1).below b2)
      clear b1 b2
      generalize (w.alloc (.cells #[.int .i64 op, .int .i64 to, .int .i64 a, .int .i64 b, .int .i64 c] 24)).alloc (.cells #[.int .i64 0, .int .i64 0, .int .i64 0, .int .i64 0, .int .i64 0] 24) = w1 at *
      obtain ⟨R, hR⟩ : ∃ B, B = w.heap.size + 1 := ⟨_, rfl⟩
      have ZR := hide hR
      rw [← hR] at RX ⊢
      clear hR
      obtain ⟨B0, hB0⟩ : ∃ B, B = w.heap.size := ⟨_, rfl⟩
      have ZB0 := hide hB0
      rw [← hB0] at IX0 ⊢
      clear hB0
      have k0 := IX0.out.cells.cell0
      have k1 := IX0.out.cells.cell1
      have k2 := IX0.out.cells.cell2
      have k3 := IX0.out.cells.cell3
      have k4 := IX0.out.cells.cell4
      simp only [Nat.zero_add] at k1 k2 k3 k4
      have q0 := RX.out.cells.cell0
      have q1 := RX.out.cells.cell1
      have q2 := RX.out.cells.cell2
      have q3 := RX.out.cells.cell3
      have q4 := RX.out.cells.cell4
      simp only [Nat.zero_add] at q1 q2 q3 q4
      have f0 := RX.out.free 0
      have f1 := RX.out.free 1
      have f2 := RX.out.free 2
      have f3 := RX.out.free 3
      have f4 := RX.out.free 4
      go_wp2_with fail
      refine (ones_any c _ h4 h0).mono ?_
      rintro e w2 ⟨k, rfl, hk, rfl⟩
      have ek : ¬ k = 1 := fun h => by have := hk.1 h; omega
      clear hk
      go_wp2
      refine ret_ins rfl R ⟨op, to, a, b, c⟩ rfl (RX.out.put ⟨op, to, a, b, c⟩) rfl ⟨rfl, ?_⟩
      exact below_put5 HB.out (by have := ZR.out; omega) _ _ _ _ _
    · skip
      go_enter Tryd.func17, Tryd.ntmps17
      go_upto_region 1 with fail
      have b1 := below_alloc w (.cells #[.int .i64 op, .int .i64 to, .int .i64 a, .int .i64 b, .int .i64 c] 24)
      have b2 := below_alloc (w.alloc (.cells #[.int .i64 op, .int .i64 to, .int .i64 a, .int .i64 b, .int .i64 c] 24)) (.cells #[.int .i64 0, .int .i64 0, .int .i64 0, .int .i64 0, .int .i64 0] 24)
      have IX0 := ((Box5.new w 24 ⟨op, to, a, b, c⟩).step b2)
      replace IX0 : Hid (Box5 ((w.alloc (.cells #[.int .i64 op, .int .i64 to, .int .i64 a, .int .i64 b, .int .i64 c] 24)).alloc (.cells #[.int .i64 0, .int .i64 0, .int .i64 0, .int .i64 0, .int .i64 0] 24)) (w.heap.size) 24 ⟨op, to, a, b, c⟩) := hide IX0
      have RX := (Box5.new (w.alloc (.cells #[.int .i64 op, .int .i64 to, .int .i64 a, .int .i64 b, .int .i64 c] 24)) 24 ⟨0, 0, 0, 0, 0⟩)
      simp only [World.size_alloc] at RX
      replace RX : Hid (Box5 ((w.alloc (.cells #[.int .i64 op, .int .i64 to, .int .i64 a, .int .i64 b, .int .i64 c] 24)).alloc (.cells #[.int .i64 0, .int .i64 0, .int .i64 0, .int .i64 0, .int .i64 0] 24)) (w.heap.size + 1) 24 ⟨0, 0, 0, 0, 0⟩) := hide RX
      have HB := hide (b1.trans (b2.mono b1.size))
      replace HT := hide ((HT.out.below b1).below b2)
      clear b1 b2
      generalize (w.alloc (.cells #[.int .i64 op, .int .i64 to, .int .i64 a, .int .i64 b, .int .i64 c] 24)).alloc (.cells #[.int .i64 0, .int .i64 0, .int .i64 0, .int .i64 0, .int .i64 0] 24) = w1 at *
      obtain ⟨R, hR⟩ : ∃ B, B = w.heap.size + 1 := ⟨_, rfl⟩
      have ZR := hide hR
      rw [← hR] at RX ⊢
      clear hR
      obtain ⟨B0, hB0⟩ : ∃ B, B = w.heap.size := ⟨_, rfl⟩
      have ZB0 := hide hB0
      rw [← hB0] at IX0 ⊢
      clear hB0
      have k0 := IX0.out.cells.cell0
      have k1 := IX0.out.cells.cell1
      have k2 := IX0.out.cells.cell2
      have k3 := IX0.out.cells.cell3
      have k4 := IX0.out.cells.cell4
      simp only [Nat.zero_add] at k1 k2 k3 k4
      have q0 := RX.out.cells.cell0
      have q1 := RX.out.cells.cell1
      have q2 := RX.out.cells.cell2
      have q3 := RX.out.cells.cell3
      have q4 := RX.out.cells.cell4
      simp only [Nat.zero_add] at q1 q2 q3 q4
      have f0 := RX.out.free 0
      have f1 := RX.out.free 1
      have f2 := RX.out.free 2
      have f3 := RX.out.free 3
      have f4 := RX.out.free 4
      go_wp2
      refine ret_ins rfl R ⟨op, to, a, b, c⟩ rfl (RX.out.put ⟨op, to, a, b, c⟩) rfl ⟨rfl, ?_⟩
      exact below_put5 HB.out (by have := ZR.out; omega) _ _ _ _ _
set_option maxRecDepth 100000 in
set_option maxHeartbeats 4000000 in
theorem plain_any (i : Ins) (w : World) (h0 : mayB i 128 = true) (hT : TabW64 w) :
    Calls Tryd.prog 11 #[.agg #[.int .i64 i.op, .int .i64 i.to, .int .i64 i.a, .int .i64 i.b, .int .i64 i.c]] w fun e w' => e = .returned (.agg #[.int .i64 (plI i).op, .int .i64 (plI i).to, .int .i64 (plI i).a, .int .i64 (plI i).b, .int .i64 (plI i).c]) ∧ Below w.heap.size w w' := by
  rw [may_iff] at h0
  obtain ⟨op, to, a, b, c⟩ := i
  dsimp only at h0 ⊢
  have HT := hide hT
  clear hT
  by_cases h5 : op = 5
  · subst h5
    rw [show plI ⟨5, to, a, b, c⟩ = pfI ⟨5, to, a, b, c⟩ 7 from rfl]
    go_enter Tryd.func11, Tryd.ntmps11
    go_upto_region 1 with fail
    have b1 := below_alloc w (.cells #[.int .i64 5, .int .i64 to, .int .i64 a, .int .i64 b, .int .i64 c] 24)
    have b2 := below_alloc (w.alloc (.cells #[.int .i64 5, .int .i64 to, .int .i64 a, .int .i64 b, .int .i64 c] 24)) (.cells #[.int .i64 0, .int .i64 0, .int .i64 0, .int .i64 0, .int .i64 0] 24)
    have IX0 := ((Box5.new w 24 ⟨5, to, a, b, c⟩).step b2)
    replace IX0 : Hid (Box5 ((w.alloc (.cells #[.int .i64 5, .int .i64 to, .int .i64 a, .int .i64 b, .int .i64 c] 24)).alloc (.cells #[.int .i64 0, .int .i64 0, .int .i64 0, .int .i64 0, .int .i64 0] 24)) (w.heap.size) 24 ⟨5, to, a, b, c⟩) := hide IX0
    have RX := (Box5.new (w.alloc (.cells #[.int .i64 5, .int .i64 to, .int .i64 a, .int .i64 b, .int .i64 c] 24)) 24 ⟨0, 0, 0, 0, 0⟩)
    simp only [World.size_alloc] at RX
    replace RX : Hid (Box5 ((w.alloc (.cells #[.int .i64 5, .int .i64 to, .int .i64 a, .int .i64 b, .int .i64 c] 24)).alloc (.cells #[.int .i64 0, .int .i64 0, .int .i64 0, .int .i64 0, .int .i64 0] 24)) (w.heap.size + 1) 24 ⟨0, 0, 0, 0, 0⟩) := hide RX
    have HB := hide (b1.trans (b2.mono b1.size))
    replace HT := hide ((HT.out.below b1).below b2)
    clear b1 b2
    generalize (w.alloc (.cells #[.int .i64 5, .int .i64 to, .int .i64 a, .int .i64 b, .int .i64 c] 24)).alloc (.cells #[.int .i64 0, .int .i64 0, .int .i64 0, .int .i64 0, .int .i64 0] 24) = w1 at *
    obtain ⟨R, hR⟩ : ∃ B, B = w.heap.size + 1 := ⟨_, rfl⟩
    have ZR := hide hR
    rw [← hR] at RX ⊢
    clear hR
    obtain ⟨B0, hB0⟩ : ∃ B, B = w.heap.size := ⟨_, rfl⟩
    have ZB0 := hide hB0
    rw [← hB0] at IX0 ⊢
    clear hB0
    have k0 := IX0.out.cells.cell0
    have k1 := IX0.out.cells.cell1
    have k2 := IX0.out.cells.cell2
    have k3 := IX0.out.cells.cell3
    have k4 := IX0.out.cells.cell4
    simp only [Nat.zero_add] at k1 k2 k3 k4
    have q0 := RX.out.cells.cell0
    have q1 := RX.out.cells.cell1
    have q2 := RX.out.cells.cell2
    have q3 := RX.out.cells.cell3
    have q4 := RX.out.cells.cell4
    simp only [Nat.zero_add] at q1 q2 q3 q4
    have f0 := RX.out.free 0
    have f1 := RX.out.free 1
    have f2 := RX.out.free 2
    have f3 := RX.out.free 3
    have f4 := RX.out.free 4
    go_wp2_with fail
    refine (factor_any ⟨5, to, a, b, c⟩ 7 _ (by dsimp only; omega) HT.out).mono ?_
    rintro e w2 ⟨rfl, hb⟩
    replace IX0 := hide (IX0.out.step hb)
    replace RX := hide (RX.out.step hb)
    replace HB := hide (HB.out.trans (hb.mono HB.out.size))
    clear hb k0 k1 k2 k3 k4 q0 q1 q2 q3 q4 f0 f1 f2 f3 f4
    have q0 := RX.out.cells.cell0
    have q1 := RX.out.cells.cell1
    have q2 := RX.out.cells.cell2
    have q3 := RX.out.cells.cell3
    have q4 := RX.out.cells.cell4
    simp only [Nat.zero_add] at q1 q2 q3 q4
    have f0 := RX.out.free 0
    have f1 := RX.out.free 1
    have f2 := RX.out.free 2
    have f3 := RX.out.free 3
    have f4 := RX.out.free 4
    go_wp2
    refine ret_ins rfl R (pfI ⟨5, to, a, b, c⟩ 7) rfl (RX.out.put (pfI ⟨5, to, a, b, c⟩ 7)) rfl ⟨rfl, ?_⟩
    exact below_put5 HB.out (by have := ZR.out; omega) _ _ _ _ _
  by_cases h6 : op = 6
  · subst h6
    rw [show plI ⟨6, to, a, b, c⟩ = pfI ⟨6, to, a, b, c⟩ 8 from rfl]
    go_enter Tryd.func11, Tryd.ntmps11
    go_upto_region 1 with fail
    have b1 := below_alloc w (.cells #[.int .i64 6, .int .i64 to, .int .i64 a, .int .i64 b, .int .i64 c] 24)
    have b2 := below_alloc (w.alloc (.cells #[.int .i64 6, .int .i64 to, .int .i64 a, .int .i64 b, .int .i64 c] 24)) (.cells #[.int .i64 0, .int .i64 0, .int .i64 0, .int .i64 0, .int .i64 0] 24)
    have IX0 := ((Box5.new w 24 ⟨6, to, a, b, c⟩).step b2)
    replace IX0 : Hid (Box5 ((w.alloc (.cells #[.int .i64 6, .int .i64 to, .int .i64 a, .int .i64 b, .int .i64 c] 24)).alloc (.cells #[.int .i64 0, .int .i64 0, .int .i64 0, .int .i64 0, .int .i64 0] 24)) (w.heap.size) 24 ⟨6, to, a, b, c⟩) := hide IX0
    have RX := (Box5.new (w.alloc (.cells #[.int .i64 6, .int .i64 to, .int .i64 a, .int .i64 b, .int .i64 c] 24)) 24 ⟨0, 0, 0, 0, 0⟩)
    simp only [World.size_alloc] at RX
    replace RX : Hid (Box5 ((w.alloc (.cells #[.int .i64 6, .int .i64 to, .int .i64 a, .int .i64 b, .int .i64 c] 24)).alloc (.cells #[.int .i64 0, .int .i64 0, .int .i64 0, .int .i64 0, .int .i64 0] 24)) (w.heap.size + 1) 24 ⟨0, 0, 0, 0, 0⟩) := hide RX
    have HB := hide (b1.trans (b2.mono b1.size))
    replace HT := hide ((HT.out.below b1).below b2)
    clear b1 b2
    generalize (w.alloc (.cells #[.int .i64 6, .int .i64 to, .int .i64 a, .int .i64 b, .int .i64 c] 24)).alloc (.cells #[.int .i64 0, .int .i64 0, .int .i64 0, .int .i64 0, .int .i64 0] 24) = w1 at *
    obtain ⟨R, hR⟩ : ∃ B, B = w.heap.size + 1 := ⟨_, rfl⟩
    have ZR := hide hR
    rw [← hR] at RX ⊢
    clear hR
    obtain ⟨B0, hB0⟩ : ∃ B, B = w.heap.size := ⟨_, rfl⟩
    have ZB0 := hide hB0
    rw [← hB0] at IX0 ⊢
    clear hB0
    have k0 := IX0.out.cells.cell0
    have k1 := IX0.out.cells.cell1
    have k2 := IX0.out.cells.cell2
    have k3 := IX0.out.cells.cell3
    have k4 := IX0.out.cells.cell4
    simp only [Nat.zero_add] at k1 k2 k3 k4
    have q0 := RX.out.cells.cell0
    have q1 := RX.out.cells.cell1
    have q2 := RX.out.cells.cell2
    have q3 := RX.out.cells.cell3
    have q4 := RX.out.cells.cell4
    simp only [Nat.zero_add] at q1 q2 q3 q4
    have f0 := RX.out.free 0
    have f1 := RX.out.free 1
    have f2 := RX.out.free 2
    have f3 := RX.out.free 3
    have f4 := RX.out.free 4
    go_wp2_with fail
    refine (factor_any ⟨6, to, a, b, c⟩ 8 _ (by dsimp only; omega) HT.out).mono ?_
    rintro e w2 ⟨rfl, hb⟩
    replace IX0 := hide (IX0.out.step hb)
    replace RX := hide (RX.out.step hb)
    replace HB := hide (HB.out.trans (hb.mono HB.out.size))
    clear hb k0 k1 k2 k3 k4 q0 q1 q2 q3 q4 f0 f1 f2 f3 f4
    have q0 := RX.out.cells.cell0
    have q1 := RX.out.cells.cell1
    have q2 := RX.out.cells.cell2
    have q3 := RX.out.cells.cell3
    have q4 := RX.out.cells.cell4
    simp only [Nat.zero_add] at q1 q2 q3 q4
    have f0 := RX.out.free 0
    have f1 := RX.out.free 1
    have f2 := RX.out.free 2
    have f3 := RX.out.free 3
    have f4 := RX.out.free 4
    go_wp2
    refine ret_ins rfl R (pfI ⟨6, to, a, b, c⟩ 8) rfl (RX.out.put (pfI ⟨6, to, a, b, c⟩ 8)) rfl ⟨rfl, ?_⟩
    exact below_put5 HB.out (by have := ZR.out; omega) _ _ _ _ _
  by_cases h3 : op = 3
  · subst h3
    by_cases h4 : a = b
    · subst h4
      rw [show plI ⟨3, to, a, a, c⟩ = ⟨7, to, a, 0, 1⟩ by unfold plI; simp]
      dsimp only
      go_enter Tryd.func11, Tryd.ntmps11
      go_upto_region 1 with fail
      have b1 := below_alloc w (.cells #[.int .i64 3, .int .i64 to, .int .i64 a, .int .i64 a, .int .i64 c] 24)
      have b2 := below_alloc (w.alloc (.cells #[.int .i64 3, .int .i64 to, .int .i64 a, .int .i64 a, .int .i64 c] 24)) (.cells #[.int .i64 0, .int .i64 0, .int .i64 0, .int .i64 0, .int .i64 0] 24)
      have IX0 := ((Box5.new w 24 ⟨3, to, a, a, c⟩).step b2)
      replace IX0 : Hid (Box5 ((w.alloc (.cells #[.int .i64 3, .int .i64 to, .int .i64 a, .int .i64 a, .int .i64 c] 24)).alloc (.cells #[.int .i64 0, .int .i64 0, .int .i64 0, .int .i64 0, .int .i64 0] 24)) (w.heap.size) 24 ⟨3, to, a, a, c⟩) := hide IX0
      have RX := (Box5.new (w.alloc (.cells #[.int .i64 3, .int .i64 to, .int .i64 a, .int .i64 a, .int .i64 c] 24)) 24 ⟨0, 0, 0, 0, 0⟩)
      simp only [World.size_alloc] at RX
      replace RX : Hid (Box5 ((w.alloc (.cells #[.int .i64 3, .int .i64 to, .int .i64 a, .int .i64 a, .int .i64 c] 24)).alloc (.cells #[.int .i64 0, .int .i64 0, .int .i64 0, .int .i64 0, .int .i64 0] 24)) (w.heap.size + 1) 24 ⟨0, 0, 0, 0, 0⟩) := hide RX
      have HB := hide (b1.trans (b2.mono b1.size))
      replace HT := hide ((HT.out.below b1).below b2)
      clear b1 b2
      generalize (w.alloc (.cells #[.int .i64 3, .int .i64 to, .int .i64 a, .int .i64 a, .int .i64 c] 24)).alloc (.cells #[.int .i64 0, .int .i64 0, .int .i64 0, .int .i64 0, .int .i64 0] 24) = w1 at *
      obtain ⟨R, hR⟩ : ∃ B, B = w.heap.size + 1 := ⟨_, rfl⟩
      have ZR := hide hR
      rw [← hR] at RX ⊢
      clear hR
      obtain ⟨B0, hB0⟩ : ∃ B, B = w.heap.size := ⟨_, rfl⟩
      have ZB0 := hide hB0
      rw [← hB0] at IX0 ⊢
      clear hB0
      have k0 := IX0.out.cells.cell0
      have k1 := IX0.out.cells.cell1
      have k2 := IX0.out.cells.cell2
      have k3 := IX0.out.cells.cell3
      have k4 := IX0.out.cells.cell4
      simp only [Nat.zero_add] at k1 k2 k3 k4
      have q0 := RX.out.cells.cell0
      have q1 := RX.out.cells.cell1
      have q2 := RX.out.cells.cell2
      have q3 := RX.out.cells.cell3
      have q4 := RX.out.cells.cell4
      simp only [Nat.zero_add] at q1 q2 q3 q4
      have f0 := RX.out.free 0
      have f1 := RX.out.free 1
      have f2 := RX.out.free 2
      have f3 := RX.out.free 3
      have f4 := RX.out.free 4
      go_wp2_with fail
      refine (instead_any ⟨3, to, a, a, c⟩ 7 1 _).mono ?_
      rintro e w2 ⟨rfl, hb⟩
      replace IX0 := hide (IX0.out.step hb)
      replace RX := hide (RX.out.step hb)
      replace HB := hide (HB.out.trans (hb.mono HB.out.size))
      clear hb k0 k1 k2 k3 k4 q0 q1 q2 q3 q4 f0 f1 f2 f3 f4
      dsimp only
      have q0 := RX.out.cells.cell0
      have q1 := RX.out.cells.cell1
      have q2 := RX.out.cells.cell2
      have q3 := RX.out.cells.cell3
      have q4 := RX.out.cells.cell4
      simp only [Nat.zero_add] at q1 q2 q3 q4
      have f0 := RX.out.free 0
      have f1 := RX.out.free 1
      have f2 := RX.out.free 2
      have f3 := RX.out.free 3
      have f4 := RX.out.free 4
      go_wp2
      refine ret_ins rfl R ⟨7, to, a, 0, 1⟩ rfl (RX.out.put ⟨7, to, a, 0, 1⟩) rfl ⟨rfl, ?_⟩
      exact below_put5 HB.out (by have := ZR.out; omega) _ _ _ _ _
    · rw [show plI ⟨3, to, a, b, c⟩ = ⟨3, to, a, b, c⟩ by unfold plI; simp [h4]]
      dsimp only
      go_enter Tryd.func11, Tryd.ntmps11
      go_upto_region 1 with fail
      have b1 := below_alloc w (.cells #[.int .i64 3, .int .i64 to, .int .i64 a, .int .i64 b, .int .i64 c] 24)
      have b2 := below_alloc (w.alloc (.cells #[.int .i64 3, .int .i64 to, .int .i64 a, .int .i64 b, .int .i64 c] 24)) (.cells #[.int .i64 0, .int .i64 0, .int .i64 0, .int .i64 0, .int .i64 0] 24)
      have IX0 := ((Box5.new w 24 ⟨3, to, a, b, c⟩).step b2)
      replace IX0 : Hid (Box5 ((w.alloc (.cells #[.int .i64 3, .int .i64 to, .int .i64 a, .int .i64 b, .int .i64 c] 24)).alloc (.cells #[.int .i64 0, .int .i64 0, .int .i64 0, .int .i64 0, .int .i64 0] 24)) (w.heap.size) 24 ⟨3, to, a, b, c⟩) := hide IX0
      have RX := (Box5.new (w.alloc (.cells #[.int .i64 3, .int .i64 to, .int .i64 a, .int .i64 b, .int .i64 c] 24)) 24 ⟨0, 0, 0, 0, 0⟩)
      simp only [World.size_alloc] at RX
      replace RX : Hid (Box5 ((w.alloc (.cells #[.int .i64 3, .int .i64 to, .int .i64 a, .int .i64 b, .int .i64 c] 24)).alloc (.cells #[.int .i64 0, .int .i64 0, .int .i64 0, .int .i64 0, .int .i64 0] 24)) (w.heap.size + 1) 24 ⟨0, 0, 0, 0, 0⟩) := hide RX
      have HB := hide (b1.trans (b2.mono b1.size))
      replace HT := hide ((HT.out.below b1).below b2)
      clear b1 b2
      generalize (w.alloc (.cells #[.int .i64 3, .int .i64 to, .int .i64 a, .int .i64 b, .int .i64 c] 24)).alloc (.cells #[.int .i64 0, .int .i64 0, .int .i64 0, .int .i64 0, .int .i64 0] 24) = w1 at *
      obtain ⟨R, hR⟩ : ∃ B, B = w.heap.size + 1 := ⟨_, rfl⟩
      have ZR := hide hR
      rw [← hR] at RX ⊢
      clear hR
      obtain ⟨B0, hB0⟩ : ∃ B, B = w.heap.size := ⟨_, rfl⟩
      have ZB0 := hide hB0
      rw [← hB0] at IX0 ⊢
      clear hB0
      have k0 := IX0.out.cells.cell0
      have k1 := IX0.out.cells.cell1
      have k2 := IX0.out.cells.cell2
      have k3 := IX0.out.cells.cell3
      have k4 := IX0.out.cells.cell4
      simp only [Nat.zero_add] at k1 k2 k3 k4
      have q0 := RX.out.cells.cell0
      have q1 := RX.out.cells.cell1
      have q2 := RX.out.cells.cell2
      have q3 := RX.out.cells.cell3
      have q4 := RX.out.cells.cell4
      simp only [Nat.zero_add] at q1 q2 q3 q4
      have f0 := RX.out.free 0
      have f1 := RX.out.free 1
      have f2 := RX.out.free 2
      have f3 := RX.out.free 3
      have f4 := RX.out.free 4
      go_wp2
      refine ret_ins rfl R ⟨3, to, a, b, c⟩ rfl (RX.out.put ⟨3, to, a, b, c⟩) rfl ⟨rfl, ?_⟩
      exact below_put5 HB.out (by have := ZR.out; omega) _ _ _ _ _
  · rw [show plI ⟨op, to, a, b, c⟩ = ⟨op, to, a, b, c⟩ by unfold plI; simp [h5, h6, h3]]
    dsimp only
    go_enter Tryd.func11, Tryd.ntmps11
    go_upto_region 1 with fail
    have b1 := below_alloc w (.cells #[.int .i64 op, .int .i64 to, .int .i64 a, .int .i64 b, .int .i64 c] 24)
    have b2 := below_alloc (w.alloc (.cells #[.int .i64 op, .int .i64 to, .int .i64 a, .int .i64 b, .int .i64 c] 24)) (.cells #[.int .i64 0, .int .i64 0, .int .i64 0, .int .i64 0, .int .i64 0] 24)
    have IX0 := ((Box5.new w 24 ⟨op, to, a, b, c⟩).step b2)
    replace IX0 : Hid (Box5 ((w.alloc (.cells #[.int .i64 op, .int .i64 to, .int .i64 a, .int .i64 b, .int .i64 c] 24)).alloc (.cells #[.int .i64 0, .int .i64 0, .int .i64 0, .int .i64 0, .int .i64 0] 24)) (w.heap.size) 24 ⟨op, to, a, b, c⟩) := hide IX0
    have RX := (Box5.new (w.alloc (.cells #[.int .i64 op, .int .i64 to, .int .i64 a, .int .i64 b, .int .i64 c] 24)) 24 ⟨0, 0, 0, 0, 0⟩)
    simp only [World.size_alloc] at RX
    replace RX : Hid (Box5 ((w.alloc (.cells #[.int .i64 op, .int .i64 to, .int .i64 a, .int .i64 b, .int .i64 c] 24)).alloc (.cells #[.int .i64 0, .int .i64 0, .int .i64 0, .int .i64 0, .int .i64 0] 24)) (w.heap.size + 1) 24 ⟨0, 0, 0, 0, 0⟩) := hide RX
    have HB := hide (b1.trans (b2.mono b1.size))
    replace HT := hide ((HT.out.below b1).below b2)
    clear b1 b2
    generalize (w.alloc (.cells #[.int .i64 op, .int .i64 to, .int .i64 a, .int .i64 b, .int .i64 c] 24)).alloc (.cells #[.int .i64 0, .int .i64 0, .int .i64 0, .int .i64 0, .int .i64 0] 24) = w1 at *
    obtain ⟨R, hR⟩ : ∃ B, B = w.heap.size + 1 := ⟨_, rfl⟩
    have ZR := hide hR
    rw [← hR] at RX ⊢
    clear hR
    obtain ⟨B0, hB0⟩ : ∃ B, B = w.heap.size := ⟨_, rfl⟩
    have ZB0 := hide hB0
    rw [← hB0] at IX0 ⊢
    clear hB0
    have k0 := IX0.out.cells.cell0
    have k1 := IX0.out.cells.cell1
    have k2 := IX0.out.cells.cell2
    have k3 := IX0.out.cells.cell3
    have k4 := IX0.out.cells.cell4
    simp only [Nat.zero_add] at k1 k2 k3 k4
    have q0 := RX.out.cells.cell0
    have q1 := RX.out.cells.cell1
    have q2 := RX.out.cells.cell2
    have q3 := RX.out.cells.cell3
    have q4 := RX.out.cells.cell4
    simp only [Nat.zero_add] at q1 q2 q3 q4
    have f0 := RX.out.free 0
    have f1 := RX.out.free 1
    have f2 := RX.out.free 2
    have f3 := RX.out.free 3
    have f4 := RX.out.free 4
    go_wp2
    refine ret_ins rfl R ⟨op, to, a, b, c⟩ rfl (RX.out.put ⟨op, to, a, b, c⟩) rfl ⟨rfl, ?_⟩
    exact below_put5 HB.out (by have := ZR.out; omega) _ _ _ _ _
end Go.Proofs.YtgkpdeabcijokaaDoor
