/- share's shared: what becomes of an instruction. -/
import Derived.Test.YtclopelniopjkaaShRk
import Derived.Test.YtclopelniopjkaaShFh
import Derived.Test.YtclopelniopjkaaPgCnt
namespace Go.Proofs.Ytclopelniopjkaa
open Go.RowKit

theorem ints1c (w : World) (e : TypeId) (x : Int) {n : Nat} (hn : n = w.heap.size) : IntsAt (w.alloc (.cells #[.int .i64 x] e)) (.slice (some ⟨n, 0, none⟩) 1 1) [x] := by
  subst hn
  refine ⟨_, 1, rfl, Nat.le_refl _, by simp [maxLen], fun _ => ⟨_, _, rfl, fun i hi => ?_⟩⟩
  have hh := heap_alloc_new w (.cells #[.int .i64 x] e)
  generalize w.alloc (.cells #[.int .i64 x] e) = W at hh ⊢
  generalize w.heap.size = B at hh ⊢
  match i, hi with
  | 0, _ => simp [World.cell?, hh, ot]
theorem IntRow.ints {w : World} {g : Nat} {l : List Int} (h : IntRow w g l) (hl : l.length ≤ maxLen) : IntsAt w (.slice (some ⟨g, 0, none⟩) l.length l.length) l :=
  ⟨_, _, rfl, Nat.le_refl _, hl, fun _ => ⟨g, 0, rfl, fun i hi => by rw [Nat.zero_add]; exact h.cell hi⟩⟩
set_option maxRecDepth 100000 in
set_option maxHeartbeats 4000000 in
theorem shared_any (i : Ins) (v : Int) (w : World) (base B g m n : Nat) (D : DataW Unit) (s : ShS) (h : BookAt w base B g m n D s) (hl : s.held.length ≤ 128) (ha : 0 ≤ i.a ∧ i.a < s.held.length) (hb : 0 ≤ i.b ∧ i.b < s.held.length) (ho : 1 ≤ i.op ∧ i.op ≤ 8) (h0 : twoB i.op = false → i.b = 0) :
    Calls Try.prog 42 #[.pointer (some ⟨B, 0, none⟩), .agg #[.int .i64 i.op, .int .i64 i.to, .int .i64 i.a, .int .i64 i.b, .int .i64 i.c], .int .i64 v] w fun e w' => e = .returned (.agg #[.int .i64 (shar s.held i v).op, .int .i64 (shar s.held i v).to, .int .i64 (shar s.held i v).a, .int .i64 (shar s.held i v).b, .int .i64 (shar s.held i v).c]) ∧ Below w.heap.size w w' := by
  have HK := hide h
  have HL := hide hl
  have HA := hide ha
  have HBB := hide hb
  have HO := hide ho
  have H0 := hide h0
  obtain ⟨op, to, a, b, c⟩ := i
  dsimp only at HA HBB HO H0 ⊢
  clear h hl ha hb ho h0
  go_enter Try.func42, Try.ntmps42
  go_upto_region 1 with fail
  have b1 := below_alloc w (.cells #[.int .i64 op, .int .i64 to, .int .i64 a, .int .i64 b, .int .i64 c] 40)
  have b2 := below_alloc (w.alloc (.cells #[.int .i64 op, .int .i64 to, .int .i64 a, .int .i64 b, .int .i64 c] 40)) (.cells #[.int .i64 0, .int .i64 0, .int .i64 0, .int .i64 0, .int .i64 0] 40)
  have IX : Hid (Box5 ((w.alloc (.cells #[.int .i64 op, .int .i64 to, .int .i64 a, .int .i64 b, .int .i64 c] 40)).alloc (.cells #[.int .i64 0, .int .i64 0, .int .i64 0, .int .i64 0, .int .i64 0] 40)) w.heap.size 40 ⟨op, to, a, b, c⟩) := hide ((Box5.new w 40 ⟨op, to, a, b, c⟩).step b2)
  have RX : Hid (Box5 ((w.alloc (.cells #[.int .i64 op, .int .i64 to, .int .i64 a, .int .i64 b, .int .i64 c] 40)).alloc (.cells #[.int .i64 0, .int .i64 0, .int .i64 0, .int .i64 0, .int .i64 0] 40)) (w.heap.size + 1) 40 ⟨0, 0, 0, 0, 0⟩) := hide (by
    have := Box5.new (w.alloc (.cells #[.int .i64 op, .int .i64 to, .int .i64 a, .int .i64 b, .int .i64 c] 40)) 40 ⟨0, 0, 0, 0, 0⟩
    rw [World.size_alloc] at this
    exact this)
  have HB := hide (b1.trans (b2.mono b1.size))
  replace HK := hide ((HK.out.below b1).below b2)
  clear b1 b2
  generalize (w.alloc (.cells #[.int .i64 op, .int .i64 to, .int .i64 a, .int .i64 b, .int .i64 c] 40)).alloc (.cells #[.int .i64 0, .int .i64 0, .int .i64 0, .int .i64 0, .int .i64 0] 40) = w1 at *
  obtain ⟨I, hI⟩ : ∃ I, I = w.heap.size := ⟨_, rfl⟩
  have ZI := hide hI
  rw [← hI] at IX RX ⊢
  clear hI
  obtain ⟨R, hR⟩ : ∃ R, R = I + 1 := ⟨_, rfl⟩
  have ZR := hide hR
  rw [← hR] at RX ⊢
  clear hR
  have b1 := below_alloc w1 (.cells #[.int .i64 v] 3)
  have V1 := hide (ints1c w1 3 v rfl)
  replace HK := hide (HK.out.below b1)
  replace IX := hide (IX.out.step b1)
  replace RX := hide (RX.out.step b1)
  replace HB := hide (HB.out.trans (b1.mono HB.out.size))
  go_wp2_with fail
  generalize w1.alloc (.cells #[.int .i64 v] 3) = w2 at *
  refine (firstHolders_any _ [v] _ base B g m n D s HK.out V1.out (by simp) (by have := HL.out; omega)).mono ?_
  rintro e w3 ⟨⟨g1, rfl, h1, _⟩, hb⟩
  replace HK := hide (HK.out.below hb)
  replace IX := hide (IX.out.step hb)
  replace RX := hide (RX.out.step hb)
  replace HB := hide (HB.out.trans (hb.mono HB.out.size))
  clear hb b1 V1
  have c1 := IntRow.cell h1 (j := 0) (by simp)
  rw [show ot (List.map (hold s.held) [v]) 0 = hold s.held v from rfl] at c1
  clear h1
  dsimp only [List.length_cons, List.length_nil]
  generalize hh : hold s.held v = hv
  rw [hh] at c1
  have HV := hide hh
  clear hh
  by_cases hn : hv = -1
  · subst hn
    go_upto_region 4 with fail
    clear c1
    cases htw : twoB op with
    | true =>
      have E1 : asksL ⟨op, to, a, b, c⟩ = [a, b] := by unfold asksL; exact if_pos (by simpa [twoB] using htw)
      have TW := hide htw
      clear htw
      have k0 := IX.out.cells.cell0
      have k1 := IX.out.cells.cell1
      have k2 := IX.out.cells.cell2
      have k3 := IX.out.cells.cell3
      have k4 := IX.out.cells.cell4
      simp only [Nat.zero_add] at k1 k2 k3 k4
      have z0 := RX.out.cells.cell0
      have z1 := RX.out.cells.cell1
      have z2 := RX.out.cells.cell2
      have z3 := RX.out.cells.cell3
      have z4 := RX.out.cells.cell4
      simp only [Nat.zero_add] at z1 z2 z3 z4
      have f0 := RX.out.free 0
      have f1 := RX.out.free 1
      have f2 := RX.out.free 2
      have f3 := RX.out.free 3
      have f4 := RX.out.free 4
      go_wp2_with fail
      refine (asks_any ⟨op, to, a, b, c⟩ _).mono ?_
      rintro e w4 ⟨⟨va, rfl, hva⟩, hb⟩
      rw [E1] at hva
      replace HK := hide (HK.out.below hb)
      replace IX := hide (IX.out.step hb)
      replace RX := hide (RX.out.step hb)
      replace HB := hide (HB.out.trans (hb.mono HB.out.size))
      clear hb E1 k0 k1 k2 k3 k4 z0 z1 z2 z3 z4 f0 f1 f2 f3 f4
      go_wp2_with fail
      refine (valuesOf_any _ [a, b] _ base B g m n D s HK.out hva (by simp) (fun j hj => ?_)).mono ?_
      · match j, hj with
        | 0, _ => exact HA.out
        | 1, _ => exact HBB.out
      rintro e w5 ⟨⟨g2, rfl, h2, _⟩, hb⟩
      replace HK := hide (HK.out.below hb)
      replace IX := hide (IX.out.step hb)
      replace RX := hide (RX.out.step hb)
      replace HB := hide (HB.out.trans (hb.mono HB.out.size))
      clear hb hva
      have h3 := IntRow.ints h2 (by simp [maxLen])
      clear h2
      go_wp2_with fail
      refine (firstHolders_any _ [ot s.held a.toNat, ot s.held b.toNat] _ base B g m n D s HK.out h3 (by simp) (by have := HL.out; omega)).mono ?_
      rintro e w6 ⟨⟨g3, rfl, h4, hg3⟩, hb⟩
      have LI2 := IX.out.lt
      have LR2 := RX.out.lt
      replace HK := hide (HK.out.below hb)
      replace IX := hide (IX.out.step hb)
      replace RX := hide (RX.out.step hb)
      replace HB := hide (HB.out.trans (hb.mono HB.out.size))
      clear hb h3
      have h5 : IntRow w6 g3 [hold s.held (ot s.held a.toNat), hold s.held (ot s.held b.toNat)] := h4
      have NI : g3 ≠ I := by omega
      have NR : g3 ≠ R := by omega
      clear LI2 LR2 hg3 h4
      generalize hp : hold s.held (ot s.held a.toNat) = hpa at h5
      have HPA := hide hp
      clear hp
      generalize hp : hold s.held (ot s.held b.toNat) = hpb at h5
      have HPB := hide hp
      clear hp
      have H5 := hide h5
      have a0 := IntRow.cell h5 (j := 0) (by simp)
      rw [show ot _ 0 = hpa from rfl] at a0
      clear h5
      dsimp only [List.length_cons, List.length_nil]
      have k0 := IX.out.cells.cell0
      have k1 := IX.out.cells.cell1
      have k2 := IX.out.cells.cell2
      have k3 := IX.out.cells.cell3
      have k4 := IX.out.cells.cell4
      simp only [Nat.zero_add] at k1 k2 k3 k4
      have z0 := RX.out.cells.cell0
      have z1 := RX.out.cells.cell1
      have z2 := RX.out.cells.cell2
      have z3 := RX.out.cells.cell3
      have z4 := RX.out.cells.cell4
      simp only [Nat.zero_add] at z1 z2 z3 z4
      have f0 := RX.out.free 0
      have f1 := RX.out.free 1
      have f2 := RX.out.free 2
      have f3 := RX.out.free 3
      have f4 := RX.out.free 4
      have i2 := IX.out.free 2
      have i3 := IX.out.free 3
      go_upto_region 6 with fail
      replace IX := hide (IX.out.set2 hpa)
      replace RX := hide (RX.out.set_ne (C := I) (o := 2) (by have := ZR.out; omega) (.int .i64 hpa))
      replace HB := hide (HB.out.setCell (p := ⟨I, 2, none⟩) (by show _ ≤ I; have := ZI.out; omega) (.int .i64 hpa))
      replace H5 := hide (H5.out.other (b := I) (Ne.symm NI) 2 (.int .i64 hpa))
      clear k0 k1 k2 k3 k4 z0 z1 z2 z3 z4 f0 f1 f2 f3 f4 a0 i2 i3 HK
      generalize w6.setCell ⟨I, 2, none⟩ (.int .i64 hpa) = w7 at *
      have k0 := IX.out.cells.cell0
      have k1 := IX.out.cells.cell1
      have k2 := IX.out.cells.cell2
      have k3 := IX.out.cells.cell3
      have k4 := IX.out.cells.cell4
      simp only [Nat.zero_add] at k1 k2 k3 k4
      have z0 := RX.out.cells.cell0
      have z1 := RX.out.cells.cell1
      have z2 := RX.out.cells.cell2
      have z3 := RX.out.cells.cell3
      have z4 := RX.out.cells.cell4
      simp only [Nat.zero_add] at z1 z2 z3 z4
      have f0 := RX.out.free 0
      have f1 := RX.out.free 1
      have f2 := RX.out.free 2
      have f3 := RX.out.free 3
      have f4 := RX.out.free 4
      go_wp2_with fail
      refine (asksTwo_any ⟨op, to, hpa, b, c⟩ _).mono ?_
      rintro e w8 ⟨rfl, hb⟩
      dsimp only
      rw [TW.out]
      replace IX := hide (IX.out.step hb)
      replace RX := hide (RX.out.step hb)
      replace HB := hide (HB.out.trans (hb.mono HB.out.size))
      replace H5 := hide (H5.out.step hb)
      clear hb k0 k1 k2 k3 k4 z0 z1 z2 z3 z4 f0 f1 f2 f3 f4
      have k0 := IX.out.cells.cell0
      have k1 := IX.out.cells.cell1
      have k2 := IX.out.cells.cell2
      have k3 := IX.out.cells.cell3
      have k4 := IX.out.cells.cell4
      simp only [Nat.zero_add] at k1 k2 k3 k4
      have z0 := RX.out.cells.cell0
      have z1 := RX.out.cells.cell1
      have z2 := RX.out.cells.cell2
      have z3 := RX.out.cells.cell3
      have z4 := RX.out.cells.cell4
      simp only [Nat.zero_add] at z1 z2 z3 z4
      have f0 := RX.out.free 0
      have f1 := RX.out.free 1
      have f2 := RX.out.free 2
      have f3 := RX.out.free 3
      have f4 := RX.out.free 4
      have i3 := IX.out.free 3
      have a1 := IntRow.cell H5.out (j := 1) (by simp)
      rw [show ot _ 1 = hpb from rfl] at a1
      go_upto_region 8 with fail
      replace IX := hide (IX.out.set3 hpb)
      replace RX := hide (RX.out.set_ne (C := I) (o := 3) (by have := ZR.out; omega) (.int .i64 hpb))
      replace HB := hide (HB.out.setCell (p := ⟨I, 3, none⟩) (by show _ ≤ I; have := ZI.out; omega) (.int .i64 hpb))
      clear k0 k1 k2 k3 k4 z0 z1 z2 z3 z4 f0 f1 f2 f3 f4 a1 i3
      generalize w8.setCell ⟨I, 3, none⟩ (.int .i64 hpb) = w9 at *
      have k0 := IX.out.cells.cell0
      have k1 := IX.out.cells.cell1
      have k2 := IX.out.cells.cell2
      have k3 := IX.out.cells.cell3
      have k4 := IX.out.cells.cell4
      simp only [Nat.zero_add] at k1 k2 k3 k4
      have z0 := RX.out.cells.cell0
      have z1 := RX.out.cells.cell1
      have z2 := RX.out.cells.cell2
      have z3 := RX.out.cells.cell3
      have z4 := RX.out.cells.cell4
      simp only [Nat.zero_add] at z1 z2 z3 z4
      have f0 := RX.out.free 0
      have f1 := RX.out.free 1
      have f2 := RX.out.free 2
      have f3 := RX.out.free 3
      have f4 := RX.out.free 4
      go_wp2
      refine ret_ins rfl R ⟨op, to, hpa, hpb, c⟩ rfl (RX.out.put ⟨op, to, hpa, hpb, c⟩) rfl ?_
      refine ⟨?_, below_put5 HB.out (by have := ZI.out; have := ZR.out; omega) _ _ _ _ _⟩
      have e1 : shar s.held ⟨op, to, a, b, c⟩ v = ⟨op, to, hpa, hpb, c⟩ := by
        unfold shar
        rw [if_neg (by rw [HV.out]; omega)]
        dsimp only
        rw [if_pos TW.out, HPA.out, HPB.out]
      rw [e1]
    | false =>
      have E1 : asksL ⟨op, to, a, b, c⟩ = [a] := by unfold asksL; rw [if_neg (by simpa [twoB] using htw)]; exact if_pos HO.out
      have TW := hide htw
      clear htw
      have k0 := IX.out.cells.cell0
      have k1 := IX.out.cells.cell1
      have k2 := IX.out.cells.cell2
      have k3 := IX.out.cells.cell3
      have k4 := IX.out.cells.cell4
      simp only [Nat.zero_add] at k1 k2 k3 k4
      have z0 := RX.out.cells.cell0
      have z1 := RX.out.cells.cell1
      have z2 := RX.out.cells.cell2
      have z3 := RX.out.cells.cell3
      have z4 := RX.out.cells.cell4
      simp only [Nat.zero_add] at z1 z2 z3 z4
      have f0 := RX.out.free 0
      have f1 := RX.out.free 1
      have f2 := RX.out.free 2
      have f3 := RX.out.free 3
      have f4 := RX.out.free 4
      go_wp2_with fail
      refine (asks_any ⟨op, to, a, b, c⟩ _).mono ?_
      rintro e w4 ⟨⟨va, rfl, hva⟩, hb⟩
      rw [E1] at hva
      replace HK := hide (HK.out.below hb)
      replace IX := hide (IX.out.step hb)
      replace RX := hide (RX.out.step hb)
      replace HB := hide (HB.out.trans (hb.mono HB.out.size))
      clear hb E1 k0 k1 k2 k3 k4 z0 z1 z2 z3 z4 f0 f1 f2 f3 f4
      go_wp2_with fail
      refine (valuesOf_any _ [a] _ base B g m n D s HK.out hva (by simp) (fun j hj => ?_)).mono ?_
      · match j, hj with
        | 0, _ => exact HA.out
      rintro e w5 ⟨⟨g2, rfl, h2, _⟩, hb⟩
      replace HK := hide (HK.out.below hb)
      replace IX := hide (IX.out.step hb)
      replace RX := hide (RX.out.step hb)
      replace HB := hide (HB.out.trans (hb.mono HB.out.size))
      clear hb hva
      have h3 := IntRow.ints h2 (by simp [maxLen])
      clear h2
      go_wp2_with fail
      refine (firstHolders_any _ [ot s.held a.toNat] _ base B g m n D s HK.out h3 (by simp) (by have := HL.out; omega)).mono ?_
      rintro e w6 ⟨⟨g3, rfl, h4, hg3⟩, hb⟩
      have LI2 := IX.out.lt
      have LR2 := RX.out.lt
      replace HK := hide (HK.out.below hb)
      replace IX := hide (IX.out.step hb)
      replace RX := hide (RX.out.step hb)
      replace HB := hide (HB.out.trans (hb.mono HB.out.size))
      clear hb h3
      have h5 : IntRow w6 g3 [hold s.held (ot s.held a.toNat)] := h4
      have NI : g3 ≠ I := by omega
      have NR : g3 ≠ R := by omega
      clear LI2 LR2 hg3 h4
      generalize hp : hold s.held (ot s.held a.toNat) = hpa at h5
      have HPA := hide hp
      clear hp
      have H5 := hide h5
      have a0 := IntRow.cell h5 (j := 0) (by simp)
      rw [show ot _ 0 = hpa from rfl] at a0
      clear h5
      dsimp only [List.length_cons, List.length_nil]
      have k0 := IX.out.cells.cell0
      have k1 := IX.out.cells.cell1
      have k2 := IX.out.cells.cell2
      have k3 := IX.out.cells.cell3
      have k4 := IX.out.cells.cell4
      simp only [Nat.zero_add] at k1 k2 k3 k4
      have z0 := RX.out.cells.cell0
      have z1 := RX.out.cells.cell1
      have z2 := RX.out.cells.cell2
      have z3 := RX.out.cells.cell3
      have z4 := RX.out.cells.cell4
      simp only [Nat.zero_add] at z1 z2 z3 z4
      have f0 := RX.out.free 0
      have f1 := RX.out.free 1
      have f2 := RX.out.free 2
      have f3 := RX.out.free 3
      have f4 := RX.out.free 4
      have i2 := IX.out.free 2
      have i3 := IX.out.free 3
      go_upto_region 6 with fail
      replace IX := hide (IX.out.set2 hpa)
      replace RX := hide (RX.out.set_ne (C := I) (o := 2) (by have := ZR.out; omega) (.int .i64 hpa))
      replace HB := hide (HB.out.setCell (p := ⟨I, 2, none⟩) (by show _ ≤ I; have := ZI.out; omega) (.int .i64 hpa))
      replace H5 := hide (H5.out.other (b := I) (Ne.symm NI) 2 (.int .i64 hpa))
      clear k0 k1 k2 k3 k4 z0 z1 z2 z3 z4 f0 f1 f2 f3 f4 a0 i2 i3 HK
      generalize w6.setCell ⟨I, 2, none⟩ (.int .i64 hpa) = w7 at *
      have k0 := IX.out.cells.cell0
      have k1 := IX.out.cells.cell1
      have k2 := IX.out.cells.cell2
      have k3 := IX.out.cells.cell3
      have k4 := IX.out.cells.cell4
      simp only [Nat.zero_add] at k1 k2 k3 k4
      have z0 := RX.out.cells.cell0
      have z1 := RX.out.cells.cell1
      have z2 := RX.out.cells.cell2
      have z3 := RX.out.cells.cell3
      have z4 := RX.out.cells.cell4
      simp only [Nat.zero_add] at z1 z2 z3 z4
      have f0 := RX.out.free 0
      have f1 := RX.out.free 1
      have f2 := RX.out.free 2
      have f3 := RX.out.free 3
      have f4 := RX.out.free 4
      go_wp2_with fail
      refine (asksTwo_any ⟨op, to, hpa, b, c⟩ _).mono ?_
      rintro e w8 ⟨rfl, hb⟩
      dsimp only
      rw [TW.out]
      replace IX := hide (IX.out.step hb)
      replace RX := hide (RX.out.step hb)
      replace HB := hide (HB.out.trans (hb.mono HB.out.size))
      replace H5 := hide (H5.out.step hb)
      clear hb k0 k1 k2 k3 k4 z0 z1 z2 z3 z4 f0 f1 f2 f3 f4
      have k0 := IX.out.cells.cell0
      have k1 := IX.out.cells.cell1
      have k2 := IX.out.cells.cell2
      have k3 := IX.out.cells.cell3
      have k4 := IX.out.cells.cell4
      simp only [Nat.zero_add] at k1 k2 k3 k4
      have z0 := RX.out.cells.cell0
      have z1 := RX.out.cells.cell1
      have z2 := RX.out.cells.cell2
      have z3 := RX.out.cells.cell3
      have z4 := RX.out.cells.cell4
      simp only [Nat.zero_add] at z1 z2 z3 z4
      have f0 := RX.out.free 0
      have f1 := RX.out.free 1
      have f2 := RX.out.free 2
      have f3 := RX.out.free 3
      have f4 := RX.out.free 4
      go_wp2
      refine ret_ins rfl R ⟨op, to, hpa, b, c⟩ rfl (RX.out.put ⟨op, to, hpa, b, c⟩) rfl ?_
      refine ⟨?_, below_put5 HB.out (by have := ZI.out; have := ZR.out; omega) _ _ _ _ _⟩
      have e1 : shar s.held ⟨op, to, a, b, c⟩ v = ⟨op, to, hpa, b, c⟩ := by
        unfold shar
        rw [if_neg (by rw [HV.out]; omega)]
        dsimp only
        rw [if_neg (by rw [TW.out]; decide), HPA.out, ← H0.out TW.out]
      rw [e1]
  · have hge : 0 ≤ hv := by
      by_cases h : 0 ≤ hold s.held v
      · rw [HV.out] at h; exact h
      · exact absurd (HV.out.symm.trans (hold_neg h)) hn
    have GE := hide hge
    clear hge
    have k0 := IX.out.cells.cell0
    have k1 := IX.out.cells.cell1
    have k2 := IX.out.cells.cell2
    have k3 := IX.out.cells.cell3
    have k4 := IX.out.cells.cell4
    simp only [Nat.zero_add] at k1 k2 k3 k4
    have z0 := RX.out.cells.cell0
    have z1 := RX.out.cells.cell1
    have z2 := RX.out.cells.cell2
    have z3 := RX.out.cells.cell3
    have z4 := RX.out.cells.cell4
    simp only [Nat.zero_add] at z1 z2 z3 z4
    have f0 := RX.out.free 0
    have f1 := RX.out.free 1
    have f2 := RX.out.free 2
    have f3 := RX.out.free 3
    have f4 := RX.out.free 4
    go_wp2
    refine ret_ins rfl R ⟨1, to, hv, 0, 0⟩ rfl (RX.out.put ⟨1, to, hv, 0, 0⟩) rfl ?_
    refine ⟨?_, below_put5 HB.out (by have := ZI.out; have := ZR.out; omega) _ _ _ _ _⟩
    have e1 : shar s.held ⟨op, to, a, b, c⟩ v = ⟨1, to, hv, 0, 0⟩ := by
      unfold shar
      rw [HV.out, if_pos GE.out]
    rw [e1]
end Go.Proofs.Ytclopelniopjkaa
