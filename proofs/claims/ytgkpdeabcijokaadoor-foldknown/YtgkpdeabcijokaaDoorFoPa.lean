/- fold.Pass: the program with plain forms alone, all those melted that may be. -/
import Derived.Test.YtgkpdeabcijokaaDoorFoFd
import Derived.Test.YtgkpdeabcijokaaDoorPgChecksWalk
namespace Go.Proofs.YtgkpdeabcijokaaDoor
open Go.RowKit

theorem may_mono {i : Ins} {r : Int} (h : mayB i r = true) (hr : r ≤ 128) : mayB i 128 = true := by rw [may_iff] at h ⊢; omega
def PassR (w w' : World) (e : Ending) (p : Pg) : Prop := if rightB p = true then ∃ v, e = .returned (.tuple #[v, .int .i64 0]) ∧ OwnPg w' w.heap.size v (pasP p) else e = .returned (.tuple #[.agg #[.int .i64 0, .int .i64 0, .slice none 0 0, .slice none 0 0], .int .i64 80])
set_option maxRecDepth 100000 in
set_option maxHeartbeats 8000000 in
theorem pass_any (v : Value) (p : Pg) (w : World) (h : PgAt w v p) (hT : TabW64 w) :
    Calls Tryd.prog 8 #[v] w fun e w' => PassR w w' e p ∧ Below w.heap.size w w' := by
  have HP := hide h
  have HT := hide hT
  obtain ⟨ca, cc, oa, oc, rfl, hc, ho⟩ := h
  have KC := hide hc
  have KO := hide ho
  clear hc ho hT
  go_enter Tryd.func8, Tryd.ntmps8
  go_upto_region 1 with fail
  have b1 := below_alloc w (.cells #[.int .i64 p.ins, .int .i64 p.regs, .slice ca p.code.length cc, .slice oa p.outs.length oc] 36)
  have b2 := below_alloc (w.alloc (.cells #[.int .i64 p.ins, .int .i64 p.regs, .slice ca p.code.length cc, .slice oa p.outs.length oc] 36)) (.cells #[.int .i64 0, .int .i64 0, .slice none 0 0, .slice none 0 0] 36)
  have PX := hide ((Box4.new w 36 (.int .i64 p.ins) (.int .i64 p.regs) (.slice ca p.code.length cc) (.slice oa p.outs.length oc)).step b2)
  have RX := hide (Box4.new (w.alloc (.cells #[.int .i64 p.ins, .int .i64 p.regs, .slice ca p.code.length cc, .slice oa p.outs.length oc] 36)) 36 (.int .i64 0) (.int .i64 0) (.slice none 0 0) (.slice none 0 0))
  rw [World.size_alloc] at RX
  replace KC := hide ((KC.out.below b1).below b2)
  replace KO := hide ((KO.out.below b1).below b2)
  replace HP := hide ((HP.out.below b1).below b2)
  replace HT := hide ((HT.out.below b1).below b2)
  have HB := hide (b1.trans (b2.mono b1.size))
  clear b1 b2
  generalize ((w.alloc (.cells #[.int .i64 p.ins, .int .i64 p.regs, .slice ca p.code.length cc, .slice oa p.outs.length oc] 36)).alloc (.cells #[.int .i64 0, .int .i64 0, .slice none 0 0, .slice none 0 0] 36)) = w1 at *
  obtain ⟨B, hB⟩ : ∃ B, B = w.heap.size := ⟨_, rfl⟩
  have HZ := hide hB
  rw [← hB] at PX RX ⊢
  clear hB
  obtain ⟨R, hR⟩ : ∃ R, R = B + 1 := ⟨_, rfl⟩
  have HR := hide hR
  rw [← hR] at RX ⊢
  clear hR
  have c0 := PX.out.cell0
  have c1 := PX.out.cell1
  have c2 := PX.out.cell2
  have c3 := PX.out.cell3
  have r0 := RX.out.cell0
  have r1 := RX.out.cell1
  have r2 := RX.out.cell2
  have r3 := RX.out.cell3
  have f0 := RX.out.free 0
  have f1 := RX.out.free 1
  have f2 := RX.out.free 2
  have f3 := RX.out.free 3
  go_wp2_with fail
  refine (check_any _ p _ HP.out).mono ?_
  rintro e w2 ⟨rfl, hb⟩
  replace KC := hide (KC.out.below hb)
  replace KO := hide (KO.out.below hb)
  replace HP := hide (HP.out.below hb)
  replace HT := hide (HT.out.below hb)
  replace PX := hide (PX.out.step hb)
  replace RX := hide (RX.out.step hb)
  replace HB := hide (HB.out.trans (hb.mono HB.out.size))
  clear hb c0 c1 c2 c3 r0 r1 r2 r3 f0 f1 f2 f3
  cases hr : rightB p with
  | false =>
    have HRR := hide hr
    rw [ck_wrong hr]
    clear hr
    generalize chkK p = kk
    have r0 := RX.out.cell0
    have r1 := RX.out.cell1
    have r2 := RX.out.cell2
    have r3 := RX.out.cell3
    have f0 := RX.out.free 0
    have f1 := RX.out.free 1
    have f2 := RX.out.free 2
    have f3 := RX.out.free 3
    go_wp2
    refine ret_pge rfl R _ _ _ _ rfl (RX.out.put _ _ _ _) rfl ?_
    refine ⟨?_, ?_⟩
    · unfold PassR; rw [HRR.out, if_neg (by decide)]; rfl
    · exact below_put4 HB.out (by have := HR.out; have := HZ.out; omega) _ _ _ _
  | true =>
    have HRR := hide hr
    rw [ck_right hr]
    obtain ⟨p1, p2, p3, p4, p5, p6, p7, p8⟩ := right_parts hr
    have HM : Hid (∀ k, k < p.code.length → mayB (cd p.code k) 128 = true) := hide (fun k hk => may_mono (p8 k hk) (by omega))
    have HL : Hid (p.code.length ≤ 16384 ∧ p.outs.length ≤ 128) := hide (by omega)
    clear p1 p2 p3 p4 p5 p6 p7 p8 hr
    go_upto_region 4 with fail
    have LR := hide RX.out.lt
    refine wp_calm (fun w' => Below w2.heap.size w2 w' ∧ Box4 w' B 36 (.int .i64 p.ins) (.int .i64 p.regs) (.slice ca p.code.length cc) (.slice oa p.outs.length oc) ∧ Box4 w' R 36 (.int .i64 0) (.int .i64 0) (.slice none 0 0) (.slice none 0 0)) (fun j => j != 11 && j != 12) 13 #[false, false, false, false, false, false, false, false, false, false, false, false, false] (by kernel_rfl) rfl rfl ?_
    have HF := hide (And.intro ((Below.refl w2.heap.size w2).drew) (And.intro (PX.out.drew) (RX.out.drew)))
    generalize w2.drew = w2d at *
    refine Calm.takeL 13 (i := 0) (v := ?_) (a' := ?_) (l' := #[true, false, false, false, false, false, false, false, false, false, false, false, false]) (d := some 15) (by kernel_rfl) rfl (by kernel_rfl) (by kernel_rfl) (by kernel_rfl) (by kernel_rfl) (fun _ _ _ h => h) HF.out rfl ?_ rfl rfl ?_ ?_
    rotate_left
    · intro w' hF; clear hF; go_simp; try rfl
    rotate_left
    · simp only [Act.put]; exact rfl
    refine Calm.takeL 13 (i := 1) (v := ?_) (a' := ?_) (l' := #[true, true, false, false, false, false, false, false, false, false, false, false, false]) (d := some 16) (by kernel_rfl) rfl (by kernel_rfl) (by kernel_rfl) (by kernel_rfl) (by kernel_rfl) (fun _ _ _ h => h) HF.out rfl ?_ rfl rfl ?_ ?_
    rotate_left
    · intro w' hF; have f10 := hF.2.1.cell0; have f11 := hF.2.1.cell1; have f12 := hF.2.1.cell2; have f13 := hF.2.1.cell3; have f20 := hF.2.2.cell0; have f21 := hF.2.2.cell1; have f22 := hF.2.2.cell2; have f23 := hF.2.2.cell3; clear hF; go_simp; try rfl
    rotate_left
    · simp only [Act.put]; exact rfl
    refine Calm.takeL 13 (i := 2) (v := ?_) (a' := ?_) (l' := #[true, true, true, false, false, false, false, false, false, false, false, false, false]) (d := some 17) (by kernel_rfl) rfl (by kernel_rfl) (by kernel_rfl) (by kernel_rfl) (by kernel_rfl) (fun _ _ _ h => h) HF.out rfl ?_ rfl rfl ?_ ?_
    rotate_left
    · intro w' hF; clear hF; go_simp; try rfl
    rotate_left
    · simp only [Act.put]; exact rfl
    refine Calm.takeL 13 (i := 3) (v := ?_) (a' := ?_) (l' := #[true, true, true, true, false, false, false, false, false, false, false, false, false]) (d := some 18) (by kernel_rfl) rfl (by kernel_rfl) (by kernel_rfl) (by kernel_rfl) (by kernel_rfl) (fun _ _ _ h => h) HF.out rfl ?_ rfl rfl ?_ ?_
    rotate_left
    · intro w' hF; have f10 := hF.2.1.cell0; have f11 := hF.2.1.cell1; have f12 := hF.2.1.cell2; have f13 := hF.2.1.cell3; have f20 := hF.2.2.cell0; have f21 := hF.2.2.cell1; have f22 := hF.2.2.cell2; have f23 := hF.2.2.cell3; clear hF; go_simp; try rfl
    rotate_left
    · simp only [Act.put]; exact rfl
    refine Calm.takeL 13 (i := 4) (v := ?_) (a' := ?_) (l' := #[true, true, true, true, true, false, false, false, false, false, false, false, false]) (d := some 19) (by kernel_rfl) rfl (by kernel_rfl) (by kernel_rfl) (by kernel_rfl) (by kernel_rfl) (fun _ _ _ h => h) HF.out rfl ?_ rfl rfl ?_ ?_
    rotate_left
    · intro w' hF; clear hF; go_simp; try rfl
    rotate_left
    · simp only [Act.put]; exact rfl
    refine Calm.takeL 13 (i := 5) (v := ?_) (a' := ?_) (l' := #[true, true, true, true, true, true, false, false, false, false, false, false, false]) (d := some 20) (by kernel_rfl) rfl (by kernel_rfl) (by kernel_rfl) (by kernel_rfl) (by kernel_rfl) (fun _ _ _ h => h) HF.out rfl ?_ rfl rfl ?_ ?_
    rotate_left
    · intro w' hF; have f10 := hF.2.1.cell0; have f11 := hF.2.1.cell1; have f12 := hF.2.1.cell2; have f13 := hF.2.1.cell3; have f20 := hF.2.2.cell0; have f21 := hF.2.2.cell1; have f22 := hF.2.2.cell2; have f23 := hF.2.2.cell3; clear hF; go_simp; try rfl
    rotate_left
    · simp only [Act.put]; exact rfl
    refine Calm.takeL 13 (i := 7) (v := ?_) (a' := ?_) (l' := #[true, true, true, true, true, true, false, true, false, false, false, false, false]) (d := some 22) (by kernel_rfl) rfl (by kernel_rfl) (by kernel_rfl) (by kernel_rfl) (by kernel_rfl) (fun _ _ _ h => h) HF.out rfl ?_ rfl rfl ?_ ?_
    rotate_left
    · intro w' hF; clear hF; go_simp; try rfl
    rotate_left
    · simp only [Act.put]; exact rfl
    refine Calm.takeL 13 (i := 8) (v := ?_) (a' := ?_) (l' := #[true, true, true, true, true, true, false, true, true, false, false, false, false]) (d := some 23) (by kernel_rfl) rfl (by kernel_rfl) (by kernel_rfl) (by kernel_rfl) (by kernel_rfl) (fun _ _ _ h => h) HF.out rfl ?_ rfl rfl ?_ ?_
    rotate_left
    · intro w' hF; have f10 := hF.2.1.cell0; have f11 := hF.2.1.cell1; have f12 := hF.2.1.cell2; have f13 := hF.2.1.cell3; have f20 := hF.2.2.cell0; have f21 := hF.2.2.cell1; have f22 := hF.2.2.cell2; have f23 := hF.2.2.cell3; clear hF; go_simp; try rfl
    rotate_left
    · simp only [Act.put]; exact rfl
    refine Calm.one (i := 6) (l' := #[true, true, true, true, true, true, true, true, true, false, false, false, false]) (by kernel_rfl) rfl rfl rfl fun K hK => ?_
    go_simp
    refine (folded_any _ p.code _ (KC.out.below HF.out.1) (by have := HL.out; omega) HM.out (HT.out.below HF.out.1)).mono ?_
    rintro e w5 ⟨⟨vc, rfl, hown⟩, hb⟩
    obtain ⟨va, vcap, rfl⟩ := own_slice hown
    have HF' := hide (And.intro (HF.out.1.trans ((hb).mono HF.out.1.size)) (And.intro (HF.out.2.1.step (hb)) (HF.out.2.2.step (hb))))
    have OC := hide ((show OwnC _ _ _ _ from own_base hown (HF.out.1.size)))
    refine hK _ _ (fun _ => HF'.out) ?_
    clear hK K HF hb hown
    have HF := hide HF'.out
    clear HF'
    refine Calm.one (i := 9) (l' := #[true, true, true, true, true, true, true, true, true, true, false, false, false]) (by kernel_rfl) rfl rfl rfl fun K hK => ?_
    go_simp
    refine (cloneo_any _ p.outs _ (KO.out.below HF.out.1) (by have := HL.out; omega)).mono ?_
    rintro e w6 ⟨⟨vo, rfl, hown⟩, hb⟩
    obtain ⟨vb, vcb, rfl⟩ := own_slice hown
    replace OC := hide (OC.out.below (hb))
    have HF' := hide (And.intro (HF.out.1.trans ((hb).mono HF.out.1.size)) (And.intro (HF.out.2.1.step (hb)) (HF.out.2.2.step (hb))))
    have OO := hide ((show OwnO _ _ _ _ from own_base hown (HF.out.1.size)))
    refine hK _ _ (fun _ => HF'.out) ?_
    clear hK K HF hb hown
    have HF := hide HF'.out
    clear HF'
    refine Calm.takeL 13 (i := 10) (v := ?_) (a' := ?_) (l' := #[true, true, true, true, true, true, true, true, true, true, true, false, false]) (d := some 25) (by kernel_rfl) rfl (by kernel_rfl) (by kernel_rfl) (by kernel_rfl) (by kernel_rfl) (fun _ _ _ h => h) HF.out rfl ?_ rfl rfl ?_ ?_
    rotate_left
    · intro w' hF; clear hF; go_simp; try rfl
    rotate_left
    · simp only [Act.put]; exact rfl
    refine Calm.one (i := 11) (l' := #[true, true, true, true, true, true, true, true, true, true, true, true, false]) (by kernel_rfl) rfl rfl rfl fun K hK => ?_
    have RX := hide HF.out.2.2
    have HW := hide HF.out.1
    have r0 := RX.out.cell0
    have r1 := RX.out.cell1
    have r2 := RX.out.cell2
    have r3 := RX.out.cell3
    have f0 := RX.out.free 0
    have f1 := RX.out.free 1
    have f2 := RX.out.free 2
    have f3 := RX.out.free 3
    go_simp
    refine hK _ _ (fun h => absurd h (by decide)) ?_
    clear hK K
    refine Calm.one (i := 12) (l' := #[true, true, true, true, true, true, true, true, true, true, true, true, true]) (by kernel_rfl) rfl rfl rfl fun K hK => ?_
    go_simp
    refine hK _ _ (fun h => absurd h (by decide)) ?_
    clear hK K
    refine Calm.done (by kernel_rfl) ?_
    clear r0 r1 r2 r3 f0 f1 f2 f3
    go_wp2
    refine ret_pge rfl R _ _ _ _ rfl (RX.out.put _ _ _ _) rfl ?_
    refine ⟨?_, ?_⟩
    · unfold PassR
      rw [HRR.out, if_pos rfl]
      refine ⟨_, rfl, _, _, rfl, ?_, ?_⟩
      · exact own_base (own_put OC.out LR.out _ _ _ _) (by have := LR.out; have := HR.out; have := HZ.out; omega)
      · exact own_base (own_put OO.out LR.out _ _ _ _) (by have := LR.out; have := HR.out; have := HZ.out; omega)
    · exact below_put4 (HB.out.trans (HW.out.mono HB.out.size)) (by have := HR.out; have := HZ.out; omega) _ _ _ _
end Go.Proofs.YtgkpdeabcijokaaDoor
