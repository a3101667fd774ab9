/- swagelaw13.in, works, long. -/
import Derived.Test.YtgkpdeabcijokaaDoorFoPa
import Derived.Test.YtgkpdeabcijokaaDoorFoPn
namespace Go.Proofs.YtgkpdeabcijokaaDoor
open Go.RowKit

theorem codeN (w : World) (l : List Ins) {n : Nat} (hn : n = w.heap.size) (hl : l.length ≤ 1000) : CodeAt (w.alloc (.cells (insCells l).toArray 24)) (.slice (some ⟨n, 0, none⟩) l.length l.length) l := by
  subst hn
  refine OwnC.at (base := w.heap.size) ⟨insCells_length l, .inr ⟨w.heap.size, l.length, (insCells l).toArray, rfl, Nat.le_refl _, heap_alloc_new _ _, Nat.le_refl _, by unfold maxLen; omega, ?_, ?_⟩⟩
  · rw [List.size_toArray, insCells_length]
  · show List.take (l.length * 5) (insCells l) = insCells l
    exact List.take_of_length_le (by rw [insCells_length]; exact Nat.le_refl _)
set_option maxRecDepth 100000 in
set_option maxHeartbeats 16000000 in
theorem in_any (op to a c : Int) (w : World) :
    Calls Tryd.prog 5 #[.int .i64 op, .int .i64 to, .int .i64 a, .int .i64 c] w fun e w' => e = .returned (.agg #[.int .i64 op, .int .i64 to, .int .i64 a, .int .i64 0, .int .i64 c]) ∧ Below w.heap.size w w' := by
  go_enter Tryd.func5, Tryd.ntmps5
  go_upto_region 1 with fail
  have b1 := below_alloc w (.cells #[.int .i64 0, .int .i64 0, .int .i64 0, .int .i64 0, .int .i64 0] 24)
  have RX := (Box5.new w 24 ⟨0, 0, 0, 0, 0⟩)
  replace RX : Hid (Box5 (w.alloc (.cells #[.int .i64 0, .int .i64 0, .int .i64 0, .int .i64 0, .int .i64 0] 24)) (w.heap.size) 24 ⟨0, 0, 0, 0, 0⟩) := hide RX
  have HB := hide b1
  clear b1
  generalize w.alloc (.cells #[.int .i64 0, .int .i64 0, .int .i64 0, .int .i64 0, .int .i64 0] 24) = w1 at *
  obtain ⟨R, hR⟩ : ∃ B, B = w.heap.size := ⟨_, rfl⟩
  have ZR := hide hR
  rw [← hR] at RX ⊢
  clear hR
  have q0 := RX.out.cells.cell0
  have q1 := RX.out.cells.cell1
  have q2 := RX.out.cells.cell2
  have q3 := RX.out.cells.cell3
  have q4 := RX.out.cells.cell4
  simp only [Nat.zero_add] at q1 q2 q3 q4
  have f0 := RX.out.free 0
  have f1 := RX.out.free 1
  have f2 := RX.out.free 2
  have f3 := RX.out.free 3
  have f4 := RX.out.free 4
  go_wp2
  refine ret_ins rfl R ⟨op, to, a, 0, c⟩ rfl (RX.out.put ⟨op, to, a, 0, c⟩) rfl ⟨rfl, ?_⟩
  exact below_put5 HB.out (by have := ZR.out; omega) _ _ _ _ _
def wkP : Pg := (⟨1, 2, [⟨5, 1, 0, 0, 4⟩, ⟨6, 1, 1, 0, 2⟩, ⟨6, 1, 1, 0, -2⟩, ⟨2, 1, 1, 0, 0⟩], [1]⟩ : Pg)
def wkQ : Pg := (⟨1, 2, [⟨1, 1, 0, 0, 0⟩], [1]⟩ : Pg)
theorem wk_right : rightB wkP = true := by decide
theorem wk_pass : pasP wkP = wkQ := by rfl
theorem wk_plain : plE ⟨5, 1, 0, 0, 8⟩ = .returned (.tuple #[.agg #[.int .i64 7, .int .i64 1, .int .i64 0, .int .i64 0, .int .i64 3], .bool true]) := by rfl
set_option maxRecDepth 100000 in
set_option maxHeartbeats 16000000 in
theorem works_any (w : World) (hT : TabW64 w) : Calls Tryd.prog 4 #[] w fun e w' => e = .returned (.bool true) ∧ Below w.heap.size w w' := by
  have HT := hide hT
  have HB := hide (Below.refl w.heap.size w)
  clear hT
  go_enter Tryd.func4, Tryd.ntmps4
  go_wp2_with fail
  refine (in_any 5 1 0 4 _).mono ?_
  rintro e w2 ⟨rfl, hb⟩
  replace HT := hide (HT.out.below hb)
  replace HB := hide (HB.out.trans (hb.mono HB.out.size))
  clear hb
  go_wp2_with fail
  refine (in_any 6 1 1 2 _).mono ?_
  rintro e w3 ⟨rfl, hb⟩
  replace HT := hide (HT.out.below hb)
  replace HB := hide (HB.out.trans (hb.mono HB.out.size))
  clear hb
  go_wp2_with fail
  refine (in_any 6 1 1 (-2) _).mono ?_
  rintro e w4 ⟨rfl, hb⟩
  replace HT := hide (HT.out.below hb)
  replace HB := hide (HB.out.trans (hb.mono HB.out.size))
  clear hb
  go_wp2_with fail
  refine (in_any 2 1 1 0 _).mono ?_
  rintro e w5 ⟨rfl, hb⟩
  replace HT := hide (HT.out.below hb)
  replace HB := hide (HB.out.trans (hb.mono HB.out.size))
  clear hb
  go_upto_region 2 with fail
  have b1 := below_alloc w5 (.cells #[.int .i64 5, .int .i64 1, .int .i64 0, .int .i64 0, .int .i64 4, .int .i64 6, .int .i64 1, .int .i64 1, .int .i64 0, .int .i64 2, .int .i64 6, .int .i64 1, .int .i64 1, .int .i64 0, .int .i64 (-2), .int .i64 2, .int .i64 1, .int .i64 1, .int .i64 0, .int .i64 0] 24)
  have b2 := below_alloc (w5.alloc (.cells #[.int .i64 5, .int .i64 1, .int .i64 0, .int .i64 0, .int .i64 4, .int .i64 6, .int .i64 1, .int .i64 1, .int .i64 0, .int .i64 2, .int .i64 6, .int .i64 1, .int .i64 1, .int .i64 0, .int .i64 (-2), .int .i64 2, .int .i64 1, .int .i64 1, .int .i64 0, .int .i64 0] 24)) (.cells #[.int .i64 1] 3)
  have b3 := below_alloc ((w5.alloc (.cells #[.int .i64 5, .int .i64 1, .int .i64 0, .int .i64 0, .int .i64 4, .int .i64 6, .int .i64 1, .int .i64 1, .int .i64 0, .int .i64 2, .int .i64 6, .int .i64 1, .int .i64 1, .int .i64 0, .int .i64 (-2), .int .i64 2, .int .i64 1, .int .i64 1, .int .i64 0, .int .i64 0] 24)).alloc (.cells #[.int .i64 1] 3)) (.cells #[.int .i64 1, .int .i64 2, .slice (some ⟨w5.heap.size, 0, none⟩) 4 4, .slice (some ⟨w5.heap.size + 1, 0, none⟩) 1 1] 36)
  have C1 : CodeAt (w5.alloc (.cells #[.int .i64 5, .int .i64 1, .int .i64 0, .int .i64 0, .int .i64 4, .int .i64 6, .int .i64 1, .int .i64 1, .int .i64 0, .int .i64 2, .int .i64 6, .int .i64 1, .int .i64 1, .int .i64 0, .int .i64 (-2), .int .i64 2, .int .i64 1, .int .i64 1, .int .i64 0, .int .i64 0] 24)) (.slice (some ⟨w5.heap.size, 0, none⟩) 4 4) wkP.code := codeN w5 wkP.code rfl (by decide)
  have C2 := int1 (w5.alloc (.cells #[.int .i64 5, .int .i64 1, .int .i64 0, .int .i64 0, .int .i64 4, .int .i64 6, .int .i64 1, .int .i64 1, .int .i64 0, .int .i64 2, .int .i64 6, .int .i64 1, .int .i64 1, .int .i64 0, .int .i64 (-2), .int .i64 2, .int .i64 1, .int .i64 1, .int .i64 0, .int .i64 0] 24)) 1 rfl
  simp only [World.size_alloc] at C2
  have HP : Hid (PgAt (((w5.alloc (.cells #[.int .i64 5, .int .i64 1, .int .i64 0, .int .i64 0, .int .i64 4, .int .i64 6, .int .i64 1, .int .i64 1, .int .i64 0, .int .i64 2, .int .i64 6, .int .i64 1, .int .i64 1, .int .i64 0, .int .i64 (-2), .int .i64 2, .int .i64 1, .int .i64 1, .int .i64 0, .int .i64 0] 24)).alloc (.cells #[.int .i64 1] 3)).alloc (.cells #[.int .i64 1, .int .i64 2, .slice (some ⟨w5.heap.size, 0, none⟩) 4 4, .slice (some ⟨w5.heap.size + 1, 0, none⟩) 1 1] 36)) (.agg #[.int .i64 1, .int .i64 2, .slice (some ⟨w5.heap.size, 0, none⟩) 4 4, .slice (some ⟨w5.heap.size + 1, 0, none⟩) 1 1]) wkP) := hide ⟨_, _, _, _, rfl, (C1.below b2).below b3, C2.below b3⟩
  have PX := Box4.new ((w5.alloc (.cells #[.int .i64 5, .int .i64 1, .int .i64 0, .int .i64 0, .int .i64 4, .int .i64 6, .int .i64 1, .int .i64 1, .int .i64 0, .int .i64 2, .int .i64 6, .int .i64 1, .int .i64 1, .int .i64 0, .int .i64 (-2), .int .i64 2, .int .i64 1, .int .i64 1, .int .i64 0, .int .i64 0] 24)).alloc (.cells #[.int .i64 1] 3)) 36 (.int .i64 1) (.int .i64 2) (.slice (some ⟨w5.heap.size, 0, none⟩) 4 4) (.slice (some ⟨w5.heap.size + 1, 0, none⟩) 1 1)
  simp only [World.size_alloc] at PX
  replace PX := hide PX
  replace HT := hide (((HT.out.below b1).below b2).below b3)
  replace HB := hide (((HB.out.trans (b1.mono HB.out.size)).trans (b2.mono (Nat.le_trans HB.out.size b1.size))).trans (b3.mono (Nat.le_trans (Nat.le_trans HB.out.size b1.size) b2.size)))
  clear b1 b2 b3 C1 C2
  generalize ((w5.alloc (.cells #[.int .i64 5, .int .i64 1, .int .i64 0, .int .i64 0, .int .i64 4, .int .i64 6, .int .i64 1, .int .i64 1, .int .i64 0, .int .i64 2, .int .i64 6, .int .i64 1, .int .i64 1, .int .i64 0, .int .i64 (-2), .int .i64 2, .int .i64 1, .int .i64 1, .int .i64 0, .int .i64 0] 24)).alloc (.cells #[.int .i64 1] 3)).alloc (.cells #[.int .i64 1, .int .i64 2, .slice (some ⟨w5.heap.size, 0, none⟩) 4 4, .slice (some ⟨w5.heap.size + 1, 0, none⟩) 1 1] 36) = w6 at *
  generalize w5.heap.size = N at *
  have c0 := PX.out.cell0
  have c1 := PX.out.cell1
  have c2 := PX.out.cell2
  have c3 := PX.out.cell3
  go_wp2_with fail
  refine (pass_any _ wkP _ HP.out HT.out).mono ?_
  rintro e w7 ⟨hR, hb⟩
  unfold PassR at hR
  rw [if_pos wk_right, wk_pass] at hR
  obtain ⟨v, rfl, hown⟩ := hR
  have OQ := hide (hown.at)
  replace HT := hide (HT.out.below hb)
  replace HB := hide (HB.out.trans (hb.mono HB.out.size))
  clear hb hown c0 c1 c2 c3 PX HP
  obtain ⟨qa, qc, ra, rc, hv, q1, q2⟩ := OQ.out
  replace hv : v = .agg #[.int .i64 1, .int .i64 2, .slice qa 1 qc, .slice ra 1 rc] := hv
  subst hv
  clear q1 q2
  go_upto_region 3 with fail
  have b1 := below_alloc w7 (.cells #[.int .i64 1, .int .i64 2, .slice qa 1 qc, .slice ra 1 rc] 36)
  have QX : Hid (Box4 (w7.alloc (.cells #[.int .i64 1, .int .i64 2, .slice qa 1 qc, .slice ra 1 rc] 36)) w7.heap.size 36 (.int .i64 1) (.int .i64 2) (.slice qa 1 qc) (.slice ra 1 rc)) := hide (Box4.new w7 36 _ _ _ _)
  replace OQ := hide (OQ.out.below b1)
  replace HT := hide (HT.out.below b1)
  replace HB := hide (HB.out.trans (b1.mono HB.out.size))
  clear b1
  generalize w7.alloc (.cells #[.int .i64 1, .int .i64 2, .slice qa 1 qc, .slice ra 1 rc] 36) = w8 at *
  generalize w7.heap.size = Q at *
  go_wp2_with fail
  refine (in_any 5 1 0 8 _).mono ?_
  rintro e w9 ⟨rfl, hb⟩
  replace HT := hide (HT.out.below hb)
  replace OQ := hide (OQ.out.below hb)
  replace QX := hide (QX.out.step hb)
  replace HB := hide (HB.out.trans (hb.mono HB.out.size))
  clear hb
  go_wp2_with fail
  refine (Plain_any ⟨5, 1, 0, 0, 8⟩ _ HT.out).mono ?_
  rintro e w10 ⟨rfl, hb⟩
  rw [wk_plain]
  replace OQ := hide (OQ.out.below hb)
  replace QX := hide (QX.out.step hb)
  replace HB := hide (HB.out.trans (hb.mono HB.out.size))
  clear hb
  go_upto_region 4 with fail
  have b1 := below_alloc w10 (.cells #[.int .i64 7, .int .i64 1, .int .i64 0, .int .i64 0, .int .i64 3] 24)
  have IX : Hid (Box5 (w10.alloc (.cells #[.int .i64 7, .int .i64 1, .int .i64 0, .int .i64 0, .int .i64 3] 24)) w10.heap.size 24 ⟨7, 1, 0, 0, 3⟩) := hide (Box5.new w10 24 ⟨7, 1, 0, 0, 3⟩)
  replace OQ := hide (OQ.out.below b1)
  replace QX := hide (QX.out.step b1)
  replace HB := hide (HB.out.trans (b1.mono HB.out.size))
  clear b1
  generalize w10.alloc (.cells #[.int .i64 7, .int .i64 1, .int .i64 0, .int .i64 0, .int .i64 3] 24) = wb at *
  generalize w10.heap.size = J at *
  refine wp_calm (fun w' => Below wb.heap.size wb w') (fun _ => true) 19 #[false, false, false, false, false, false, false, false, false, false, false, false, false, false, false, false, false, false, false] (by kernel_rfl) rfl rfl ?_
  have HF := hide ((Below.refl wb.heap.size wb).drew)
  generalize wb.drew = wbd at *
  refine Calm.takeL 19 (i := 0) (v := ?_) (a' := ?_) (l' := #[true, false, false, false, false, false, false, false, false, false, false, false, false, false, false, false, false, false, false]) (d := some 23) (by kernel_rfl) rfl (by kernel_rfl) (by kernel_rfl) (by kernel_rfl) (by kernel_rfl) (fun _ _ _ h => h) HF.out rfl ?_ rfl rfl ?_ ?_
  rotate_left
  · intro w' hF; clear hF; go_simp; try rfl
  rotate_left
  · simp only [Act.put]; exact rfl
  refine Calm.takeL 19 (i := 1) (v := ?_) (a' := ?_) (l' := #[true, true, false, false, false, false, false, false, false, false, false, false, false, false, false, false, false, false, false]) (d := some 24) (by kernel_rfl) rfl (by kernel_rfl) (by kernel_rfl) (by kernel_rfl) (by kernel_rfl) (fun _ _ _ h => h) HF.out rfl ?_ rfl rfl ?_ ?_
  rotate_left
  · intro w' hF; clear hF; go_simp; try rfl
  rotate_left
  · simp only [Act.put]; exact rfl
  refine Calm.takeL 19 (i := 2) (v := ?_) (a' := ?_) (l' := #[true, true, true, false, false, false, false, false, false, false, false, false, false, false, false, false, false, false, false]) (d := some 25) (by kernel_rfl) rfl (by kernel_rfl) (by kernel_rfl) (by kernel_rfl) (by kernel_rfl) (fun _ _ _ h => h) HF.out rfl ?_ rfl rfl ?_ ?_
  rotate_left
  · intro w' hF; clear hF; go_simp; try rfl
  rotate_left
  · simp only [Act.put]; exact rfl
  refine Calm.takeL 19 (i := 3) (v := ?_) (a' := ?_) (l' := #[true, true, true, true, false, false, false, false, false, false, false, false, false, false, false, false, false, false, false]) (d := some 26) (by kernel_rfl) rfl (by kernel_rfl) (by kernel_rfl) (by kernel_rfl) (by kernel_rfl) (fun _ _ _ h => h) HF.out (by kernel_rfl) ?_ rfl rfl ?_ ?_
  rotate_left
  · intro w' hF; have e0 := (QX.out.step hF).cell0; have e1 := (QX.out.step hF).cell1; have e2 := (QX.out.step hF).cell2; have e3 := (QX.out.step hF).cell3; have g0 := (IX.out.step hF).cells.cell0; have g1 := (IX.out.step hF).cells.cell1; have g2 := (IX.out.step hF).cells.cell2; have g3 := (IX.out.step hF).cells.cell3; have g4 := (IX.out.step hF).cells.cell4; simp only [Nat.zero_add] at g1 g2 g3 g4; clear hF; go_simp; try rfl
  rotate_left
  · simp only [Act.put]; exact rfl
  refine Calm.two (i := 4) (j := 6) (l := #[true, true, true, true, true, false, false, false, false, false, false, false, false, false, false, false, false, false, false]) (l' := #[true, true, true, true, false, false, true, false, false, false, false, false, false, false, false, false, false, false, false]) (by kernel_rfl) rfl rfl (by kernel_rfl) (by kernel_rfl) rfl rfl (fun K hK => ?_) (fun K hK => ?_)
  · go_simp
    refine (in_any 1 1 0 0 _).mono ?_
    rintro e u1 ⟨rfl, hb⟩
    have HF' := hide (HF.out.trans ((hb).mono HF.out.size))
    refine hK _ _ (fun _ => HF'.out) ?_
    clear hK K HF hb
    have HF := hide HF'.out
    clear HF'
    refine Calm.two (i := 5) (j := 6) (l := #[true, true, true, true, true, true, false, false, false, false, false, false, false, false, false, false, false, false, false]) (l' := #[true, true, true, true, true, false, true, false, false, false, false, false, false, false, false, false, false, false, false]) (by kernel_rfl) rfl rfl (by kernel_rfl) (by kernel_rfl) rfl rfl (fun K hK => ?_) (fun K hK => ?_)
    · go_simp
      have al := below_alloc u1 (.cells #[.int .i64 1, .int .i64 1, .int .i64 0, .int .i64 0, .int .i64 0] 24)
      have HF' := hide (HF.out.trans ((al).mono HF.out.size))
      have BXc := hide (show CodeAt (u1.alloc (.cells #[.int .i64 1, .int .i64 1, .int .i64 0, .int .i64 0, .int .i64 0] 24)) (.slice (some ⟨u1.heap.size, 0, none⟩) 1 1) [⟨1, 1, 0, 0, 0⟩] from code1 u1 ⟨1, 1, 0, 0, 0⟩ rfl)
      have GEc := hide (HF.out.size)
      refine hK _ _ (fun _ => HF'.out) ?_
      clear hK K HF al
      have HF := hide HF'.out
      clear HF'
      generalize u1.alloc (.cells #[.int .i64 1, .int .i64 1, .int .i64 0, .int .i64 0, .int .i64 0] 24) = wzc at *
      generalize u1.heap.size = gc at *
      refine Calm.one (i := 6) (l' := #[true, true, true, true, true, true, true, false, false, false, false, false, false, false, false, false, false, false, false]) (by kernel_rfl) rfl (by kernel_rfl) rfl fun K hK => ?_
      go_simp
      have al := below_alloc wzc (.cells #[.int .i64 1] 3)
      have HF' := hide (HF.out.trans ((al).mono HF.out.size))
      have BXo := hide (show IntsAt (wzc.alloc (.cells #[.int .i64 1] 3)) (.slice (some ⟨wzc.heap.size, 0, none⟩) 1 1) [1] from int1 wzc 1 rfl)
      replace BXc := hide (BXc.out.below al)
      have GEo := hide (HF.out.size)
      refine hK _ _ (fun _ => HF'.out) ?_
      clear hK K HF al
      have HF := hide HF'.out
      clear HF'
      generalize wzc.alloc (.cells #[.int .i64 1] 3) = wzo at *
      generalize wzc.heap.size = go at *
      refine Calm.takeL 19 (i := 7) (v := ?_) (a' := ?_) (l' := #[true, true, true, true, true, true, true, true, false, false, false, false, false, false, false, false, false, false, false]) (d := some 30) (by kernel_rfl) rfl (by kernel_rfl) (by kernel_rfl) (by kernel_rfl) (by kernel_rfl) (fun _ _ _ h => h) HF.out (by kernel_rfl) ?_ rfl rfl ?_ ?_
      rotate_left
      · intro w' hF; clear hF; go_simp; try rfl
      rotate_left
      · simp only [Act.put]; exact rfl
      refine Calm.one (i := 8) (l' := #[true, true, true, true, true, true, true, true, true, false, false, false, false, false, false, false, false, false, false]) (by kernel_rfl) rfl (by kernel_rfl) rfl fun K hK => ?_
      go_simp
      refine (rsame_any _ _ wkQ wkQ _ (OQ.out.below HF.out) ⟨_, _, _, _, rfl, BXc.out, BXo.out⟩).mono ?_
      rintro e u2 ⟨rfl, hb⟩
      rw [eqB_yes rfl]
      replace BXc := hide (BXc.out.below hb)
      replace BXo := hide (BXo.out.below hb)
      have HF' := hide (HF.out.trans ((hb).mono HF.out.size))
      refine hK _ _ (fun _ => HF'.out) ?_
      clear hK K HF hb
      have HF := hide HF'.out
      clear HF'
      refine Calm.takeL 19 (i := 9) (v := ?_) (a' := ?_) (l' := #[true, true, true, true, true, true, true, true, true, true, false, false, false, false, false, false, false, false, false]) (d := some 32) (by kernel_rfl) rfl (by kernel_rfl) (by kernel_rfl) (by kernel_rfl) (by kernel_rfl) (fun _ _ _ h => h) HF.out rfl ?_ rfl rfl ?_ ?_
      rotate_left
      · intro w' hF; clear hF; go_simp; try rfl
      rotate_left
      · simp only [Act.put]; exact rfl
      refine Calm.takeL 19 (i := 10) (v := ?_) (a' := ?_) (l' := #[true, true, true, true, true, true, true, true, true, true, true, false, false, false, false, false, false, false, false]) (d := some 33) (by kernel_rfl) rfl (by kernel_rfl) (by kernel_rfl) (by kernel_rfl) (by kernel_rfl) (fun _ _ _ h => h) HF.out rfl ?_ rfl rfl ?_ ?_
      rotate_left
      · intro w' hF; clear hF; go_simp; try rfl
      rotate_left
      · simp only [Act.put]; exact rfl
      refine Calm.takeL 19 (i := 11) (v := ?_) (a' := ?_) (l' := #[true, true, true, true, true, true, true, true, true, true, true, true, false, false, false, false, false, false, false]) (d := some 34) (by kernel_rfl) rfl (by kernel_rfl) (by kernel_rfl) (by kernel_rfl) (by kernel_rfl) (fun _ _ _ h => h) HF.out (by kernel_rfl) ?_ rfl rfl ?_ ?_
      rotate_left
      · intro w' hF; clear hF; go_simp; try rfl
      rotate_left
      · simp only [Act.put]; exact rfl
      refine Calm.takeL 19 (i := 12) (v := ?_) (a' := ?_) (l' := #[true, true, true, true, true, true, true, true, true, true, true, true, true, false, false, false, false, false, false]) (d := some 35) (by kernel_rfl) rfl (by kernel_rfl) (by kernel_rfl) (by kernel_rfl) (by kernel_rfl) (fun _ _ _ h => h) HF.out rfl ?_ rfl rfl ?_ ?_
      rotate_left
      · intro w' hF; clear hF; go_simp; try rfl
      rotate_left
      · simp only [Act.put]; exact rfl
      refine Calm.takeL 19 (i := 13) (v := ?_) (a' := ?_) (l' := #[true, true, true, true, true, true, true, true, true, true, true, true, true, true, false, false, false, false, false]) (d := some 36) (by kernel_rfl) rfl (by kernel_rfl) (by kernel_rfl) (by kernel_rfl) (by kernel_rfl) (fun _ _ _ h => h) HF.out rfl ?_ rfl rfl ?_ ?_
      rotate_left
      · intro w' hF; clear hF; go_simp; try rfl
      rotate_left
      · simp only [Act.put]; exact rfl
      refine Calm.takeL 19 (i := 14) (v := ?_) (a' := ?_) (l' := #[true, true, true, true, true, true, true, true, true, true, true, true, true, true, true, false, false, false, false]) (d := some 37) (by kernel_rfl) rfl (by kernel_rfl) (by kernel_rfl) (by kernel_rfl) (by kernel_rfl) (fun _ _ _ h => h) HF.out (by kernel_rfl) ?_ rfl rfl ?_ ?_
      rotate_left
      · intro w' hF; have e0 := (QX.out.step hF).cell0; have e1 := (QX.out.step hF).cell1; have e2 := (QX.out.step hF).cell2; have e3 := (QX.out.step hF).cell3; have g0 := (IX.out.step hF).cells.cell0; have g1 := (IX.out.step hF).cells.cell1; have g2 := (IX.out.step hF).cells.cell2; have g3 := (IX.out.step hF).cells.cell3; have g4 := (IX.out.step hF).cells.cell4; simp only [Nat.zero_add] at g1 g2 g3 g4; clear hF; go_simp; try rfl
      rotate_left
      · simp only [Act.put]; exact rfl
      refine Calm.one (i := 15) (l' := #[true, true, true, true, true, true, true, true, true, true, true, true, true, true, true, true, false, false, false]) (by kernel_rfl) rfl (by kernel_rfl) rfl fun K hK => ?_
      go_simp
      refine (in_any 7 1 0 3 _).mono ?_
      rintro e u3 ⟨rfl, hb⟩
      replace BXc := hide (BXc.out.below hb)
      replace BXo := hide (BXo.out.below hb)
      have HF' := hide (HF.out.trans ((hb).mono HF.out.size))
      refine hK _ _ (fun _ => HF'.out) ?_
      clear hK K HF hb
      have HF := hide HF'.out
      clear HF'
      refine Calm.takeL 19 (i := 16) (v := ?_) (a' := ?_) (l' := #[true, true, true, true, true, true, true, true, true, true, true, true, true, true, true, true, true, false, false]) (d := some 39) (by kernel_rfl) rfl (by kernel_rfl) (by kernel_rfl) (by kernel_rfl) (by kernel_rfl) (fun _ _ _ h => h) HF.out (by kernel_rfl) ?_ rfl rfl ?_ ?_
      rotate_left
      · intro w' hF; clear hF; go_simp; try rfl
      rotate_left
      · simp only [Act.put]; exact rfl
      refine Calm.takeL 19 (i := 17) (v := ?_) (a' := ?_) (l' := #[true, true, true, true, true, true, true, true, true, true, true, true, true, true, true, true, true, true, false]) (d := some 40) (by kernel_rfl) rfl (by kernel_rfl) (by kernel_rfl) (by kernel_rfl) (by kernel_rfl) (fun _ _ _ h => h) HF.out rfl ?_ rfl rfl ?_ ?_
      rotate_left
      · intro w' hF; clear hF; go_simp; try rfl
      rotate_left
      · simp only [Act.put]; exact rfl
      refine Calm.takeL 19 (i := 18) (v := ?_) (a' := ?_) (l' := #[true, true, true, true, true, true, true, true, true, true, true, true, true, true, true, true, true, true, true]) (d := some 0) (by kernel_rfl) rfl (by kernel_rfl) (by kernel_rfl) (by kernel_rfl) (by kernel_rfl) (fun _ _ _ h => h) HF.out rfl ?_ rfl rfl ?_ ?_
      rotate_left
      · intro w' hF; clear hF; go_simp; try rfl
      rotate_left
      · simp only [Act.put]; exact rfl
      refine Calm.done (by kernel_rfl) ?_
      replace HB := hide (HB.out.trans (HF.out.mono HB.out.size))
      clear HF
      go_wp2
      go_ret
      exact ⟨by first | rfl | simp, HB.out⟩
    · go_simp
      have al := below_alloc u1 (.cells #[.int .i64 1] 3)
      have HF' := hide (HF.out.trans ((al).mono HF.out.size))
      have BXo := hide (show IntsAt (u1.alloc (.cells #[.int .i64 1] 3)) (.slice (some ⟨u1.heap.size, 0, none⟩) 1 1) [1] from int1 u1 1 rfl)
      have GEo := hide (HF.out.size)
      refine hK _ _ (fun _ => HF'.out) ?_
      clear hK K HF al
      have HF := hide HF'.out
      clear HF'
      generalize u1.alloc (.cells #[.int .i64 1] 3) = wzo at *
      generalize u1.heap.size = go at *
      refine Calm.one (i := 5) (l' := #[true, true, true, true, true, true, true, false, false, false, false, false, false, false, false, false, false, false, false]) (by kernel_rfl) rfl (by kernel_rfl) rfl fun K hK => ?_
      go_simp
      have al := below_alloc wzo (.cells #[.int .i64 1, .int .i64 1, .int .i64 0, .int .i64 0, .int .i64 0] 24)
      have HF' := hide (HF.out.trans ((al).mono HF.out.size))
      have BXc := hide (show CodeAt (wzo.alloc (.cells #[.int .i64 1, .int .i64 1, .int .i64 0, .int .i64 0, .int .i64 0] 24)) (.slice (some ⟨wzo.heap.size, 0, none⟩) 1 1) [⟨1, 1, 0, 0, 0⟩] from code1 wzo ⟨1, 1, 0, 0, 0⟩ rfl)
      replace BXo := hide (BXo.out.below al)
      have GEc := hide (HF.out.size)
      refine hK _ _ (fun _ => HF'.out) ?_
      clear hK K HF al
      have HF := hide HF'.out
      clear HF'
      generalize wzo.alloc (.cells #[.int .i64 1, .int .i64 1, .int .i64 0, .int .i64 0, .int .i64 0] 24) = wzc at *
      generalize wzo.heap.size = gc at *
      refine Calm.takeL 19 (i := 7) (v := ?_) (a' := ?_) (l' := #[true, true, true, true, true, true, true, true, false, false, false, false, false, false, false, false, false, false, false]) (d := some 30) (by kernel_rfl) rfl (by kernel_rfl) (by kernel_rfl) (by kernel_rfl) (by kernel_rfl) (fun _ _ _ h => h) HF.out (by kernel_rfl) ?_ rfl rfl ?_ ?_
      rotate_left
      · intro w' hF; clear hF; go_simp; try rfl
      rotate_left
      · simp only [Act.put]; exact rfl
      refine Calm.one (i := 8) (l' := #[true, true, true, true, true, true, true, true, true, false, false, false, false, false, false, false, false, false, false]) (by kernel_rfl) rfl (by kernel_rfl) rfl fun K hK => ?_
      go_simp
      refine (rsame_any _ _ wkQ wkQ _ (OQ.out.below HF.out) ⟨_, _, _, _, rfl, BXc.out, BXo.out⟩).mono ?_
      rintro e u2 ⟨rfl, hb⟩
      rw [eqB_yes rfl]
      replace BXo := hide (BXo.out.below hb)
      replace BXc := hide (BXc.out.below hb)
      have HF' := hide (HF.out.trans ((hb).mono HF.out.size))
      refine hK _ _ (fun _ => HF'.out) ?_
      clear hK K HF hb
      have HF := hide HF'.out
      clear HF'
      refine Calm.takeL 19 (i := 9) (v := ?_) (a' := ?_) (l' := #[true, true, true, true, true, true, true, true, true, true, false, false, false, false, false, false, false, false, false]) (d := some 32) (by kernel_rfl) rfl (by kernel_rfl) (by kernel_rfl) (by kernel_rfl) (by kernel_rfl) (fun _ _ _ h => h) HF.out rfl ?_ rfl rfl ?_ ?_
      rotate_left
      · intro w' hF; clear hF; go_simp; try rfl
      rotate_left
      · simp only [Act.put]; exact rfl
      refine Calm.takeL 19 (i := 10) (v := ?_) (a' := ?_) (l' := #[true, true, true, true, true, true, true, true, true, true, true, false, false, false, false, false, false, false, false]) (d := some 33) (by kernel_rfl) rfl (by kernel_rfl) (by kernel_rfl) (by kernel_rfl) (by kernel_rfl) (fun _ _ _ h => h) HF.out rfl ?_ rfl rfl ?_ ?_
      rotate_left
      · intro w' hF; clear hF; go_simp; try rfl
      rotate_left
      · simp only [Act.put]; exact rfl
      refine Calm.takeL 19 (i := 11) (v := ?_) (a' := ?_) (l' := #[true, true, true, true, true, true, true, true, true, true, true, true, false, false, false, false, false, false, false]) (d := some 34) (by kernel_rfl) rfl (by kernel_rfl) (by kernel_rfl) (by kernel_rfl) (by kernel_rfl) (fun _ _ _ h => h) HF.out (by kernel_rfl) ?_ rfl rfl ?_ ?_
      rotate_left
      · intro w' hF; clear hF; go_simp; try rfl
      rotate_left
      · simp only [Act.put]; exact rfl
      refine Calm.takeL 19 (i := 12) (v := ?_) (a' := ?_) (l' := #[true, true, true, true, true, true, true, true, true, true, true, true, true, false, false, false, false, false, false]) (d := some 35) (by kernel_rfl) rfl (by kernel_rfl) (by kernel_rfl) (by kernel_rfl) (by kernel_rfl) (fun _ _ _ h => h) HF.out rfl ?_ rfl rfl ?_ ?_
      rotate_left
      · intro w' hF; clear hF; go_simp; try rfl
      rotate_left
      · simp only [Act.put]; exact rfl
      refine Calm.takeL 19 (i := 13) (v := ?_) (a' := ?_) (l' := #[true, true, true, true, true, true, true, true, true, true, true, true, true, true, false, false, false, false, false]) (d := some 36) (by kernel_rfl) rfl (by kernel_rfl) (by kernel_rfl) (by kernel_rfl) (by kernel_rfl) (fun _ _ _ h => h) HF.out rfl ?_ rfl rfl ?_ ?_
      rotate_left
      · intro w' hF; clear hF; go_simp; try rfl
      rotate_left
      · simp only [Act.put]; exact rfl
      refine Calm.takeL 19 (i := 14) (v := ?_) (a' := ?_) (l' := #[true, true, true, true, true, true, true, true, true, true, true, true, true, true, true, false, false, false, false]) (d := some 37) (by kernel_rfl) rfl (by kernel_rfl) (by kernel_rfl) (by kernel_rfl) (by kernel_rfl) (fun _ _ _ h => h) HF.out (by kernel_rfl) ?_ rfl rfl ?_ ?_
      rotate_left
      · intro w' hF; have e0 := (QX.out.step hF).cell0; have e1 := (QX.out.step hF).cell1; have e2 := (QX.out.step hF).cell2; have e3 := (QX.out.step hF).cell3; have g0 := (IX.out.step hF).cells.cell0; have g1 := (IX.out.step hF).cells.cell1; have g2 := (IX.out.step hF).cells.cell2; have g3 := (IX.out.step hF).cells.cell3; have g4 := (IX.out.step hF).cells.cell4; simp only [Nat.zero_add] at g1 g2 g3 g4; clear hF; go_simp; try rfl
      rotate_left
      · simp only [Act.put]; exact rfl
      refine Calm.one (i := 15) (l' := #[true, true, true, true, true, true, true, true, true, true, true, true, true, true, true, true, false, false, false]) (by kernel_rfl) rfl (by kernel_rfl) rfl fun K hK => ?_
      go_simp
      refine (in_any 7 1 0 3 _).mono ?_
      rintro e u3 ⟨rfl, hb⟩
      replace BXo := hide (BXo.out.below hb)
      replace BXc := hide (BXc.out.below hb)
      have HF' := hide (HF.out.trans ((hb).mono HF.out.size))
      refine hK _ _ (fun _ => HF'.out) ?_
      clear hK K HF hb
      have HF := hide HF'.out
      clear HF'
      refine Calm.takeL 19 (i := 16) (v := ?_) (a' := ?_) (l' := #[true, true, true, true, true, true, true, true, true, true, true, true, true, true, true, true, true, false, false]) (d := some 39) (by kernel_rfl) rfl (by kernel_rfl) (by kernel_rfl) (by kernel_rfl) (by kernel_rfl) (fun _ _ _ h => h) HF.out (by kernel_rfl) ?_ rfl rfl ?_ ?_
      rotate_left
      · intro w' hF; clear hF; go_simp; try rfl
      rotate_left
      · simp only [Act.put]; exact rfl
      refine Calm.takeL 19 (i := 17) (v := ?_) (a' := ?_) (l' := #[true, true, true, true, true, true, true, true, true, true, true, true, true, true, true, true, true, true, false]) (d := some 40) (by kernel_rfl) rfl (by kernel_rfl) (by kernel_rfl) (by kernel_rfl) (by kernel_rfl) (fun _ _ _ h => h) HF.out rfl ?_ rfl rfl ?_ ?_
      rotate_left
      · intro w' hF; clear hF; go_simp; try rfl
      rotate_left
      · simp only [Act.put]; exact rfl
      refine Calm.takeL 19 (i := 18) (v := ?_) (a' := ?_) (l' := #[true, true, true, true, true, true, true, true, true, true, true, true, true, true, true, true, true, true, true]) (d := some 0) (by kernel_rfl) rfl (by kernel_rfl) (by kernel_rfl) (by kernel_rfl) (by kernel_rfl) (fun _ _ _ h => h) HF.out rfl ?_ rfl rfl ?_ ?_
      rotate_left
      · intro w' hF; clear hF; go_simp; try rfl
      rotate_left
      · simp only [Act.put]; exact rfl
      refine Calm.done (by kernel_rfl) ?_
      replace HB := hide (HB.out.trans (HF.out.mono HB.out.size))
      clear HF
      go_wp2
      go_ret
      exact ⟨by first | rfl | simp, HB.out⟩
  · go_simp
    have al := below_alloc wbd (.cells #[.int .i64 1] 3)
    have HF' := hide (HF.out.trans ((al).mono HF.out.size))
    have BXo := hide (show IntsAt (wbd.alloc (.cells #[.int .i64 1] 3)) (.slice (some ⟨wbd.heap.size, 0, none⟩) 1 1) [1] from int1 wbd 1 rfl)
    have GEo := hide (HF.out.size)
    refine hK _ _ (fun _ => HF'.out) ?_
    clear hK K HF al
    have HF := hide HF'.out
    clear HF'
    generalize wbd.alloc (.cells #[.int .i64 1] 3) = wzo at *
    generalize wbd.heap.size = go at *
    refine Calm.one (i := 4) (l' := #[true, true, true, true, true, false, true, false, false, false, false, false, false, false, false, false, false, false, false]) (by kernel_rfl) rfl (by kernel_rfl) rfl fun K hK => ?_
    go_simp
    refine (in_any 1 1 0 0 _).mono ?_
    rintro e u1 ⟨rfl, hb⟩
    replace BXo := hide (BXo.out.below hb)
    have HF' := hide (HF.out.trans ((hb).mono HF.out.size))
    refine hK _ _ (fun _ => HF'.out) ?_
    clear hK K HF hb
    have HF := hide HF'.out
    clear HF'
    refine Calm.one (i := 5) (l' := #[true, true, true, true, true, true, true, false, false, false, false, false, false, false, false, false, false, false, false]) (by kernel_rfl) rfl (by kernel_rfl) rfl fun K hK => ?_
    go_simp
    have al := below_alloc u1 (.cells #[.int .i64 1, .int .i64 1, .int .i64 0, .int .i64 0, .int .i64 0] 24)
    have HF' := hide (HF.out.trans ((al).mono HF.out.size))
    have BXc := hide (show CodeAt (u1.alloc (.cells #[.int .i64 1, .int .i64 1, .int .i64 0, .int .i64 0, .int .i64 0] 24)) (.slice (some ⟨u1.heap.size, 0, none⟩) 1 1) [⟨1, 1, 0, 0, 0⟩] from code1 u1 ⟨1, 1, 0, 0, 0⟩ rfl)
    replace BXo := hide (BXo.out.below al)
    have GEc := hide (HF.out.size)
    refine hK _ _ (fun _ => HF'.out) ?_
    clear hK K HF al
    have HF := hide HF'.out
    clear HF'
    generalize u1.alloc (.cells #[.int .i64 1, .int .i64 1, .int .i64 0, .int .i64 0, .int .i64 0] 24) = wzc at *
    generalize u1.heap.size = gc at *
    refine Calm.takeL 19 (i := 7) (v := ?_) (a' := ?_) (l' := #[true, true, true, true, true, true, true, true, false, false, false, false, false, false, false, false, false, false, false]) (d := some 30) (by kernel_rfl) rfl (by kernel_rfl) (by kernel_rfl) (by kernel_rfl) (by kernel_rfl) (fun _ _ _ h => h) HF.out (by kernel_rfl) ?_ rfl rfl ?_ ?_
    rotate_left
    · intro w' hF; clear hF; go_simp; try rfl
    rotate_left
    · simp only [Act.put]; exact rfl
    refine Calm.one (i := 8) (l' := #[true, true, true, true, true, true, true, true, true, false, false, false, false, false, false, false, false, false, false]) (by kernel_rfl) rfl (by kernel_rfl) rfl fun K hK => ?_
    go_simp
    refine (rsame_any _ _ wkQ wkQ _ (OQ.out.below HF.out) ⟨_, _, _, _, rfl, BXc.out, BXo.out⟩).mono ?_
    rintro e u2 ⟨rfl, hb⟩
    rw [eqB_yes rfl]
    replace BXo := hide (BXo.out.below hb)
    replace BXc := hide (BXc.out.below hb)
    have HF' := hide (HF.out.trans ((hb).mono HF.out.size))
    refine hK _ _ (fun _ => HF'.out) ?_
    clear hK K HF hb
    have HF := hide HF'.out
    clear HF'
    refine Calm.takeL 19 (i := 9) (v := ?_) (a' := ?_) (l' := #[true, true, true, true, true, true, true, true, true, true, false, false, false, false, false, false, false, false, false]) (d := some 32) (by kernel_rfl) rfl (by kernel_rfl) (by kernel_rfl) (by kernel_rfl) (by kernel_rfl) (fun _ _ _ h => h) HF.out rfl ?_ rfl rfl ?_ ?_
    rotate_left
    · intro w' hF; clear hF; go_simp; try rfl
    rotate_left
    · simp only [Act.put]; exact rfl
    refine Calm.takeL 19 (i := 10) (v := ?_) (a' := ?_) (l' := #[true, true, true, true, true, true, true, true, true, true, true, false, false, false, false, false, false, false, false]) (d := some 33) (by kernel_rfl) rfl (by kernel_rfl) (by kernel_rfl) (by kernel_rfl) (by kernel_rfl) (fun _ _ _ h => h) HF.out rfl ?_ rfl rfl ?_ ?_
    rotate_left
    · intro w' hF; clear hF; go_simp; try rfl
    rotate_left
    · simp only [Act.put]; exact rfl
    refine Calm.takeL 19 (i := 11) (v := ?_) (a' := ?_) (l' := #[true, true, true, true, true, true, true, true, true, true, true, true, false, false, false, false, false, false, false]) (d := some 34) (by kernel_rfl) rfl (by kernel_rfl) (by kernel_rfl) (by kernel_rfl) (by kernel_rfl) (fun _ _ _ h => h) HF.out (by kernel_rfl) ?_ rfl rfl ?_ ?_
    rotate_left
    · intro w' hF; clear hF; go_simp; try rfl
    rotate_left
    · simp only [Act.put]; exact rfl
    refine Calm.takeL 19 (i := 12) (v := ?_) (a' := ?_) (l' := #[true, true, true, true, true, true, true, true, true, true, true, true, true, false, false, false, false, false, false]) (d := some 35) (by kernel_rfl) rfl (by kernel_rfl) (by kernel_rfl) (by kernel_rfl) (by kernel_rfl) (fun _ _ _ h => h) HF.out rfl ?_ rfl rfl ?_ ?_
    rotate_left
    · intro w' hF; clear hF; go_simp; try rfl
    rotate_left
    · simp only [Act.put]; exact rfl
    refine Calm.takeL 19 (i := 13) (v := ?_) (a' := ?_) (l' := #[true, true, true, true, true, true, true, true, true, true, true, true, true, true, false, false, false, false, false]) (d := some 36) (by kernel_rfl) rfl (by kernel_rfl) (by kernel_rfl) (by kernel_rfl) (by kernel_rfl) (fun _ _ _ h => h) HF.out rfl ?_ rfl rfl ?_ ?_
    rotate_left
    · intro w' hF; clear hF; go_simp; try rfl
    rotate_left
    · simp only [Act.put]; exact rfl
    refine Calm.takeL 19 (i := 14) (v := ?_) (a' := ?_) (l' := #[true, true, true, true, true, true, true, true, true, true, true, true, true, true, true, false, false, false, false]) (d := some 37) (by kernel_rfl) rfl (by kernel_rfl) (by kernel_rfl) (by kernel_rfl) (by kernel_rfl) (fun _ _ _ h => h) HF.out (by kernel_rfl) ?_ rfl rfl ?_ ?_
    rotate_left
    · intro w' hF; have e0 := (QX.out.step hF).cell0; have e1 := (QX.out.step hF).cell1; have e2 := (QX.out.step hF).cell2; have e3 := (QX.out.step hF).cell3; have g0 := (IX.out.step hF).cells.cell0; have g1 := (IX.out.step hF).cells.cell1; have g2 := (IX.out.step hF).cells.cell2; have g3 := (IX.out.step hF).cells.cell3; have g4 := (IX.out.step hF).cells.cell4; simp only [Nat.zero_add] at g1 g2 g3 g4; clear hF; go_simp; try rfl
    rotate_left
    · simp only [Act.put]; exact rfl
    refine Calm.one (i := 15) (l' := #[true, true, true, true, true, true, true, true, true, true, true, true, true, true, true, true, false, false, false]) (by kernel_rfl) rfl (by kernel_rfl) rfl fun K hK => ?_
    go_simp
    refine (in_any 7 1 0 3 _).mono ?_
    rintro e u3 ⟨rfl, hb⟩
    replace BXo := hide (BXo.out.below hb)
    replace BXc := hide (BXc.out.below hb)
    have HF' := hide (HF.out.trans ((hb).mono HF.out.size))
    refine hK _ _ (fun _ => HF'.out) ?_
    clear hK K HF hb
    have HF := hide HF'.out
    clear HF'
    refine Calm.takeL 19 (i := 16) (v := ?_) (a' := ?_) (l' := #[true, true, true, true, true, true, true, true, true, true, true, true, true, true, true, true, true, false, false]) (d := some 39) (by kernel_rfl) rfl (by kernel_rfl) (by kernel_rfl) (by kernel_rfl) (by kernel_rfl) (fun _ _ _ h => h) HF.out (by kernel_rfl) ?_ rfl rfl ?_ ?_
    rotate_left
    · intro w' hF; clear hF; go_simp; try rfl
    rotate_left
    · simp only [Act.put]; exact rfl
    refine Calm.takeL 19 (i := 17) (v := ?_) (a' := ?_) (l' := #[true, true, true, true, true, true, true, true, true, true, true, true, true, true, true, true, true, true, false]) (d := some 40) (by kernel_rfl) rfl (by kernel_rfl) (by kernel_rfl) (by kernel_rfl) (by kernel_rfl) (fun _ _ _ h => h) HF.out rfl ?_ rfl rfl ?_ ?_
    rotate_left
    · intro w' hF; clear hF; go_simp; try rfl
    rotate_left
    · simp only [Act.put]; exact rfl
    refine Calm.takeL 19 (i := 18) (v := ?_) (a' := ?_) (l' := #[true, true, true, true, true, true, true, true, true, true, true, true, true, true, true, true, true, true, true]) (d := some 0) (by kernel_rfl) rfl (by kernel_rfl) (by kernel_rfl) (by kernel_rfl) (by kernel_rfl) (fun _ _ _ h => h) HF.out rfl ?_ rfl rfl ?_ ?_
    rotate_left
    · intro w' hF; clear hF; go_simp; try rfl
    rotate_left
    · simp only [Act.put]; exact rfl
    refine Calm.done (by kernel_rfl) ?_
    replace HB := hide (HB.out.trans (HF.out.mono HB.out.size))
    clear HF
    go_wp2
    go_ret
    exact ⟨by first | rfl | simp, HB.out⟩
def lgB (p : Pg) : Bool := decide (300 < p.code.length) && decide (p.code.length ≤ 16384)
end Go.Proofs.YtgkpdeabcijokaaDoor
