/- swagelaw08.ProgJoins answers true at any two programs, and turns nothing that was there. -/
import Derived.Test.YtlbjkfnknkpkiaaDoorPgRJoin
import Derived.Test.YtlbjkfnknkpkiaaDoorPgJMath
import Derived.Test.YtlbjkfnknkpkiaaDoorPgRight
import Derived.Test.YtlbjkfnknkpkiaaDoorPgLive
namespace Go.Proofs.YtlbjkfnknkpkiaaDoor
open Go.RowKit

set_option maxRecDepth 100000 in
set_option maxHeartbeats 16000000 in
theorem pjoins_walk (u v : Value) (p q : Pg) (w : World) (hu : PgAt w u p) (hv : PgAt w v q) :
    Calls Tryd.prog 6 #[u, v] w fun e w' => e = .returned (.bool true) ∧ Below w.heap.size w w' := by
  have HP := hide hu
  have HQ := hide hv
  obtain ⟨ca, cc, oa, oc, rfl, _, _⟩ := hu
  obtain ⟨ca2, cc2, oa2, oc2, rfl, _, _⟩ := hv
  go_enter Tryd.func6, Tryd.ntmps6
  go_upto_region 1 with fail
  have hb := below_alloc w (.cells #[.int .i64 p.ins, .int .i64 p.regs, .slice ca p.code.length cc, .slice oa p.outs.length oc] 25)
  have hb2 := below_alloc (w.alloc (.cells #[.int .i64 p.ins, .int .i64 p.regs, .slice ca p.code.length cc, .slice oa p.outs.length oc] 25)) (.cells #[.int .i64 q.ins, .int .i64 q.regs, .slice ca2 q.code.length cc2, .slice oa2 q.outs.length oc2] 25)
  have PX := hide ((Box4.new w 25 (.int .i64 p.ins) (.int .i64 p.regs) (.slice ca p.code.length cc) (.slice oa p.outs.length oc)).step hb2)
  have PY := hide (Box4.new (w.alloc (.cells #[.int .i64 p.ins, .int .i64 p.regs, .slice ca p.code.length cc, .slice oa p.outs.length oc] 25)) 25 (.int .i64 q.ins) (.int .i64 q.regs) (.slice ca2 q.code.length cc2) (.slice oa2 q.outs.length oc2))
  rw [World.size_alloc] at PY
  replace HP := hide ((HP.out.below hb).below hb2)
  replace HQ := hide ((HQ.out.below hb).below hb2)
  have HB := hide (hb.trans (hb2.mono hb.size))
  clear hb hb2
  generalize (w.alloc (.cells #[.int .i64 p.ins, .int .i64 p.regs, .slice ca p.code.length cc, .slice oa p.outs.length oc] 25)).alloc (.cells #[.int .i64 q.ins, .int .i64 q.regs, .slice ca2 q.code.length cc2, .slice oa2 q.outs.length oc2] 25) = w1 at *
  obtain ⟨B, hB⟩ : ∃ B, B = w.heap.size := ⟨_, rfl⟩
  obtain ⟨C, hC⟩ : ∃ C, C = w.heap.size + 1 := ⟨_, rfl⟩
  have HZ := hide hB
  have HC2 := hide hC
  rw [← hC] at PY ⊢
  rw [← hB] at PX ⊢
  clear hB hC
  go_wp2_with fail
  refine (live_any _).mono ?_
  rintro e w2 ⟨rfl, hb⟩
  replace HP := hide (HP.out.below hb)
  replace HQ := hide (HQ.out.below hb)
  replace PX := hide (PX.out.step hb)
  replace PY := hide (PY.out.step hb)
  replace HB := hide (HB.out.trans (hb.mono HB.out.size))
  clear hb
  have c0 := PX.out.cell0
  have c1 := PX.out.cell1
  have c2 := PX.out.cell2
  have c3 := PX.out.cell3
  have d0 := PY.out.cell0
  have d1 := PY.out.cell1
  have d2 := PY.out.cell2
  have d3 := PY.out.cell3
  go_wp2_with fail
  refine (long_any _ p _ HP.out).mono ?_
  rintro e w3 ⟨rfl, hb⟩
  replace HP := hide (HP.out.below hb)
  replace HQ := hide (HQ.out.below hb)
  replace PX := hide (PX.out.step hb)
  replace PY := hide (PY.out.step hb)
  replace HB := hide (HB.out.trans (hb.mono HB.out.size))
  clear hb
  clear c0 c1 c2 c3 d0 d1 d2 d3
  have c0 := PX.out.cell0
  have c1 := PX.out.cell1
  have c2 := PX.out.cell2
  have c3 := PX.out.cell3
  have d0 := PY.out.cell0
  have d1 := PY.out.cell1
  have d2 := PY.out.cell2
  have d3 := PY.out.cell3
  cases hl : longB p with
  | true =>
    go_wp2
    go_ret
    exact ⟨rfl, HB.out⟩
  | false =>
  clear hl
  go_wp2_with fail
  refine (long_any _ q _ HQ.out).mono ?_
  rintro e w4 ⟨rfl, hb⟩
  replace HP := hide (HP.out.below hb)
  replace HQ := hide (HQ.out.below hb)
  replace PX := hide (PX.out.step hb)
  replace PY := hide (PY.out.step hb)
  replace HB := hide (HB.out.trans (hb.mono HB.out.size))
  clear hb
  clear c0 c1 c2 c3 d0 d1 d2 d3
  have c0 := PX.out.cell0
  have c1 := PX.out.cell1
  have c2 := PX.out.cell2
  have c3 := PX.out.cell3
  have d0 := PY.out.cell0
  have d1 := PY.out.cell1
  have d2 := PY.out.cell2
  have d3 := PY.out.cell3
  cases hl : longB q with
  | true =>
    go_wp2
    go_ret
    exact ⟨rfl, HB.out⟩
  | false =>
  clear hl
  cases hp : rightB p with
  | false =>
    have GP := hide hp
    clear hp
    go_wp2_with fail
    refine (join_wrong _ _ p q _ HP.out HQ.out (.inl GP.out)).mono ?_
    obtain ⟨J, hJ⟩ : ∃ J, J = noPg := ⟨_, rfl⟩
    rw [← hJ]
    have EJ := hide hJ
    clear hJ
    rintro e w5 ⟨⟨vj, rfl, hj⟩, hb⟩
    have HJ := hide hj
    obtain ⟨a3, k3, a4, k4, rfl, _, _⟩ := hj
    replace HP := hide (HP.out.below hb)
    replace HQ := hide (HQ.out.below hb)
    replace PX := hide (PX.out.step hb)
    replace PY := hide (PY.out.step hb)
    replace HB := hide (HB.out.trans (hb.mono HB.out.size))
    clear hb
    clear c0 c1 c2 c3 d0 d1 d2 d3
    go_upto_region 6 with fail
    have hb := below_alloc w5 (.cells #[.int .i64 J.ins, .int .i64 J.regs, .slice a3 J.code.length k3, .slice a4 J.outs.length k4] 25)
    have JX := hide (Box4.new w5 25 (.int .i64 J.ins) (.int .i64 J.regs) (.slice a3 J.code.length k3) (.slice a4 J.outs.length k4))
    replace HJ := hide (HJ.out.below hb)
    replace HP := hide (HP.out.below hb)
    replace HQ := hide (HQ.out.below hb)
    replace PX := hide (PX.out.step hb)
    replace PY := hide (PY.out.step hb)
    replace HB := hide (HB.out.trans (hb.mono HB.out.size))
    clear hb
    generalize w5.alloc (.cells #[.int .i64 J.ins, .int .i64 J.regs, .slice a3 J.code.length k3, .slice a4 J.outs.length k4] 25) = w6 at *
    generalize w5.heap.size = gj at *
    refine wp_calm (fun w' => Below w.heap.size w w' ∧ PgAt w' (.agg #[.int .i64 p.ins, .int .i64 p.regs, .slice ca p.code.length cc, .slice oa p.outs.length oc]) p ∧ PgAt w' (.agg #[.int .i64 q.ins, .int .i64 q.regs, .slice ca2 q.code.length cc2, .slice oa2 q.outs.length oc2]) q ∧ Box4 w' B 25 (.int .i64 p.ins) (.int .i64 p.regs) (.slice ca p.code.length cc) (.slice oa p.outs.length oc) ∧ Box4 w' C 25 (.int .i64 q.ins) (.int .i64 q.regs) (.slice ca2 q.code.length cc2) (.slice oa2 q.outs.length oc2) ∧ PgAt w' (.agg #[.int .i64 J.ins, .int .i64 J.regs, .slice a3 J.code.length k3, .slice a4 J.outs.length k4]) J ∧ Box4 w' gj 25 (.int .i64 J.ins) (.int .i64 J.regs) (.slice a3 J.code.length k3) (.slice a4 J.outs.length k4)) (fun _ => true) 6 #[false, false, false, false, false, false] (by kernel_rfl) rfl rfl ?_
    have HF := hide (And.intro HB.out.drew (And.intro (PgAt.drew HP.out) (And.intro (PgAt.drew HQ.out) (And.intro PX.out.drew (And.intro PY.out.drew (And.intro (PgAt.drew HJ.out) JX.out.drew))))))
    generalize w6.drew = w6d at *
    refine Calm.take (i := 0) (v := ?_) (a' := ?_) (l' := #[true, false, false, false, false, false]) (d := some 33) rfl (by kernel_rfl) (by kernel_rfl) (by kernel_rfl) (by kernel_rfl) (fun _ _ _ h => h) HF.out rfl ?_ rfl rfl ?_ ?_
    rotate_left
    · intro w' hF; have f30 := hF.2.2.2.1.cell0; have f31 := hF.2.2.2.1.cell1; have f32 := hF.2.2.2.1.cell2; have f33 := hF.2.2.2.1.cell3; have f40 := hF.2.2.2.2.1.cell0; have f41 := hF.2.2.2.2.1.cell1; have f42 := hF.2.2.2.2.1.cell2; have f43 := hF.2.2.2.2.1.cell3; have f60 := hF.2.2.2.2.2.2.cell0; have f61 := hF.2.2.2.2.2.2.cell1; have f62 := hF.2.2.2.2.2.2.cell2; have f63 := hF.2.2.2.2.2.2.cell3; clear hF; go_simp; try rfl
    rotate_left
    · simp only [Act.put]; exact rfl
    refine Calm.take (i := 2) (v := ?_) (a' := ?_) (l' := #[true, false, true, false, false, false]) (d := some 35) rfl (by kernel_rfl) (by kernel_rfl) (by kernel_rfl) (by kernel_rfl) (fun _ _ _ h => h) HF.out rfl ?_ rfl rfl ?_ ?_
    rotate_left
    · intro w' hF; have f30 := hF.2.2.2.1.cell0; have f31 := hF.2.2.2.1.cell1; have f32 := hF.2.2.2.1.cell2; have f33 := hF.2.2.2.1.cell3; have f40 := hF.2.2.2.2.1.cell0; have f41 := hF.2.2.2.2.1.cell1; have f42 := hF.2.2.2.2.1.cell2; have f43 := hF.2.2.2.2.1.cell3; have f60 := hF.2.2.2.2.2.2.cell0; have f61 := hF.2.2.2.2.2.2.cell1; have f62 := hF.2.2.2.2.2.2.cell2; have f63 := hF.2.2.2.2.2.2.cell3; clear hF; go_simp; try rfl
    rotate_left
    · simp only [Act.put]; exact rfl
    refine Calm.one (i := 1) (l' := #[true, true, true, false, false, false]) (by kernel_rfl) rfl rfl rfl fun K hK => ?_
    go_simp
    refine (rright_any _ p _ HF.out.2.1).mono ?_
    rintro e w7 ⟨rfl, hb⟩
    rw [GP.out]
    have HF' := hide (And.intro (HF.out.1.trans ((hb).mono HF.out.1.size)) (And.intro (HF.out.2.1.below (hb)) (And.intro (HF.out.2.2.1.below (hb)) (And.intro (HF.out.2.2.2.1.step (hb)) (And.intro (HF.out.2.2.2.2.1.step (hb)) (And.intro (HF.out.2.2.2.2.2.1.below (hb)) (HF.out.2.2.2.2.2.2.step (hb))))))))
    refine hK _ _ (fun _ => HF'.out) ?_
    clear hK K HF hb
    have HF := hide HF'.out
    clear HF'
    refine Calm.one (i := 3) (l' := #[true, true, true, true, false, false]) (by kernel_rfl) rfl rfl rfl fun K hK => ?_
    go_simp
    refine (rright_any _ q _ HF.out.2.2.1).mono ?_
    rintro e w8 ⟨rfl, hb⟩
    have HF' := hide (And.intro (HF.out.1.trans ((hb).mono HF.out.1.size)) (And.intro (HF.out.2.1.below (hb)) (And.intro (HF.out.2.2.1.below (hb)) (And.intro (HF.out.2.2.2.1.step (hb)) (And.intro (HF.out.2.2.2.2.1.step (hb)) (And.intro (HF.out.2.2.2.2.2.1.below (hb)) (HF.out.2.2.2.2.2.2.step (hb))))))))
    refine hK _ _ (fun _ => HF'.out) ?_
    clear hK K HF hb
    have HF := hide HF'.out
    clear HF'
    refine Calm.take (i := 4) (v := ?_) (a' := ?_) (l' := #[true, true, true, true, true, false]) (d := some 7) rfl (by kernel_rfl) (by kernel_rfl) (by kernel_rfl) (by kernel_rfl) (fun _ _ _ h => h) HF.out rfl ?_ rfl rfl ?_ ?_
    rotate_left
    · intro w' hF; clear hF; go_simp; try rfl
    rotate_left
    · simp only [Act.put]; exact rfl
    refine Calm.take (i := 5) (v := ?_) (a' := ?_) (l' := #[true, true, true, true, true, true]) (d := some 8) rfl (by kernel_rfl) (by kernel_rfl) (by kernel_rfl) (by kernel_rfl) (fun _ _ _ h => h) HF.out rfl ?_ rfl rfl ?_ ?_
    rotate_left
    · intro w' hF; clear hF; go_simp; try rfl
    rotate_left
    · simp only [Act.put]; exact rfl
    refine Calm.done (by kernel_rfl) ?_
    replace HB := hide HF.out.1
    replace HP := hide HF.out.2.1
    replace HQ := hide HF.out.2.2.1
    replace PX := hide HF.out.2.2.2.1
    replace PY := hide HF.out.2.2.2.2.1
    replace HJ := hide HF.out.2.2.2.2.2.1
    replace JX := hide HF.out.2.2.2.2.2.2
    clear HF
    have j0 := JX.out.cell0
    have j1 := JX.out.cell1
    have j2 := JX.out.cell2
    have j3 := JX.out.cell3
    go_wp2_with fail
    refine (empty_no2 _ J _ EJ.out HJ.out).mono ?_
    rintro e w9 ⟨rfl, hb⟩
    replace HB := hide (HB.out.trans (hb.mono HB.out.size))
    clear hb j0 j1 j2 j3
    go_wp2_with fail
    refine (live_any _).mono ?_
    rintro e w10 ⟨rfl, hb⟩
    replace HB := hide (HB.out.trans (hb.mono HB.out.size))
    clear hb
    go_wp2
    go_ret
    exact ⟨rfl, HB.out⟩
  | true =>
    have GP := hide hp
    clear hp
    cases hq : rightB q with
    | false =>
      have GQ := hide hq
      clear hq
      go_wp2_with fail
      refine (join_wrong _ _ p q _ HP.out HQ.out (.inr GQ.out)).mono ?_
      obtain ⟨J, hJ⟩ : ∃ J, J = noPg := ⟨_, rfl⟩
      rw [← hJ]
      have EJ := hide hJ
      clear hJ
      rintro e w5 ⟨⟨vj, rfl, hj⟩, hb⟩
      have HJ := hide hj
      obtain ⟨a3, k3, a4, k4, rfl, _, _⟩ := hj
      replace HP := hide (HP.out.below hb)
      replace HQ := hide (HQ.out.below hb)
      replace PX := hide (PX.out.step hb)
      replace PY := hide (PY.out.step hb)
      replace HB := hide (HB.out.trans (hb.mono HB.out.size))
      clear hb
      clear c0 c1 c2 c3 d0 d1 d2 d3
      go_upto_region 6 with fail
      have hb := below_alloc w5 (.cells #[.int .i64 J.ins, .int .i64 J.regs, .slice a3 J.code.length k3, .slice a4 J.outs.length k4] 25)
      have JX := hide (Box4.new w5 25 (.int .i64 J.ins) (.int .i64 J.regs) (.slice a3 J.code.length k3) (.slice a4 J.outs.length k4))
      replace HJ := hide (HJ.out.below hb)
      replace HP := hide (HP.out.below hb)
      replace HQ := hide (HQ.out.below hb)
      replace PX := hide (PX.out.step hb)
      replace PY := hide (PY.out.step hb)
      replace HB := hide (HB.out.trans (hb.mono HB.out.size))
      clear hb
      generalize w5.alloc (.cells #[.int .i64 J.ins, .int .i64 J.regs, .slice a3 J.code.length k3, .slice a4 J.outs.length k4] 25) = w6 at *
      generalize w5.heap.size = gj at *
      refine wp_calm (fun w' => Below w.heap.size w w' ∧ PgAt w' (.agg #[.int .i64 p.ins, .int .i64 p.regs, .slice ca p.code.length cc, .slice oa p.outs.length oc]) p ∧ PgAt w' (.agg #[.int .i64 q.ins, .int .i64 q.regs, .slice ca2 q.code.length cc2, .slice oa2 q.outs.length oc2]) q ∧ Box4 w' B 25 (.int .i64 p.ins) (.int .i64 p.regs) (.slice ca p.code.length cc) (.slice oa p.outs.length oc) ∧ Box4 w' C 25 (.int .i64 q.ins) (.int .i64 q.regs) (.slice ca2 q.code.length cc2) (.slice oa2 q.outs.length oc2) ∧ PgAt w' (.agg #[.int .i64 J.ins, .int .i64 J.regs, .slice a3 J.code.length k3, .slice a4 J.outs.length k4]) J ∧ Box4 w' gj 25 (.int .i64 J.ins) (.int .i64 J.regs) (.slice a3 J.code.length k3) (.slice a4 J.outs.length k4)) (fun _ => true) 6 #[false, false, false, false, false, false] (by kernel_rfl) rfl rfl ?_
      have HF := hide (And.intro HB.out.drew (And.intro (PgAt.drew HP.out) (And.intro (PgAt.drew HQ.out) (And.intro PX.out.drew (And.intro PY.out.drew (And.intro (PgAt.drew HJ.out) JX.out.drew))))))
      generalize w6.drew = w6d at *
      refine Calm.take (i := 0) (v := ?_) (a' := ?_) (l' := #[true, false, false, false, false, false]) (d := some 33) rfl (by kernel_rfl) (by kernel_rfl) (by kernel_rfl) (by kernel_rfl) (fun _ _ _ h => h) HF.out rfl ?_ rfl rfl ?_ ?_
      rotate_left
      · intro w' hF; have f30 := hF.2.2.2.1.cell0; have f31 := hF.2.2.2.1.cell1; have f32 := hF.2.2.2.1.cell2; have f33 := hF.2.2.2.1.cell3; have f40 := hF.2.2.2.2.1.cell0; have f41 := hF.2.2.2.2.1.cell1; have f42 := hF.2.2.2.2.1.cell2; have f43 := hF.2.2.2.2.1.cell3; have f60 := hF.2.2.2.2.2.2.cell0; have f61 := hF.2.2.2.2.2.2.cell1; have f62 := hF.2.2.2.2.2.2.cell2; have f63 := hF.2.2.2.2.2.2.cell3; clear hF; go_simp; try rfl
      rotate_left
      · simp only [Act.put]; exact rfl
      refine Calm.take (i := 2) (v := ?_) (a' := ?_) (l' := #[true, false, true, false, false, false]) (d := some 35) rfl (by kernel_rfl) (by kernel_rfl) (by kernel_rfl) (by kernel_rfl) (fun _ _ _ h => h) HF.out rfl ?_ rfl rfl ?_ ?_
      rotate_left
      · intro w' hF; have f30 := hF.2.2.2.1.cell0; have f31 := hF.2.2.2.1.cell1; have f32 := hF.2.2.2.1.cell2; have f33 := hF.2.2.2.1.cell3; have f40 := hF.2.2.2.2.1.cell0; have f41 := hF.2.2.2.2.1.cell1; have f42 := hF.2.2.2.2.1.cell2; have f43 := hF.2.2.2.2.1.cell3; have f60 := hF.2.2.2.2.2.2.cell0; have f61 := hF.2.2.2.2.2.2.cell1; have f62 := hF.2.2.2.2.2.2.cell2; have f63 := hF.2.2.2.2.2.2.cell3; clear hF; go_simp; try rfl
      rotate_left
      · simp only [Act.put]; exact rfl
      refine Calm.one (i := 1) (l' := #[true, true, true, false, false, false]) (by kernel_rfl) rfl rfl rfl fun K hK => ?_
      go_simp
      refine (rright_any _ p _ HF.out.2.1).mono ?_
      rintro e w7 ⟨rfl, hb⟩
      rw [GP.out]
      have HF' := hide (And.intro (HF.out.1.trans ((hb).mono HF.out.1.size)) (And.intro (HF.out.2.1.below (hb)) (And.intro (HF.out.2.2.1.below (hb)) (And.intro (HF.out.2.2.2.1.step (hb)) (And.intro (HF.out.2.2.2.2.1.step (hb)) (And.intro (HF.out.2.2.2.2.2.1.below (hb)) (HF.out.2.2.2.2.2.2.step (hb))))))))
      refine hK _ _ (fun _ => HF'.out) ?_
      clear hK K HF hb
      have HF := hide HF'.out
      clear HF'
      refine Calm.one (i := 3) (l' := #[true, true, true, true, false, false]) (by kernel_rfl) rfl rfl rfl fun K hK => ?_
      go_simp
      refine (rright_any _ q _ HF.out.2.2.1).mono ?_
      rintro e w8 ⟨rfl, hb⟩
      rw [GQ.out]
      have HF' := hide (And.intro (HF.out.1.trans ((hb).mono HF.out.1.size)) (And.intro (HF.out.2.1.below (hb)) (And.intro (HF.out.2.2.1.below (hb)) (And.intro (HF.out.2.2.2.1.step (hb)) (And.intro (HF.out.2.2.2.2.1.step (hb)) (And.intro (HF.out.2.2.2.2.2.1.below (hb)) (HF.out.2.2.2.2.2.2.step (hb))))))))
      refine hK _ _ (fun _ => HF'.out) ?_
      clear hK K HF hb
      have HF := hide HF'.out
      clear HF'
      refine Calm.take (i := 4) (v := ?_) (a' := ?_) (l' := #[true, true, true, true, true, false]) (d := some 7) rfl (by kernel_rfl) (by kernel_rfl) (by kernel_rfl) (by kernel_rfl) (fun _ _ _ h => h) HF.out rfl ?_ rfl rfl ?_ ?_
      rotate_left
      · intro w' hF; clear hF; go_simp; try rfl
      rotate_left
      · simp only [Act.put]; exact rfl
      refine Calm.take (i := 5) (v := ?_) (a' := ?_) (l' := #[true, true, true, true, true, true]) (d := some 8) rfl (by kernel_rfl) (by kernel_rfl) (by kernel_rfl) (by kernel_rfl) (fun _ _ _ h => h) HF.out rfl ?_ rfl rfl ?_ ?_
      rotate_left
      · intro w' hF; clear hF; go_simp; try rfl
      rotate_left
      · simp only [Act.put]; exact rfl
      refine Calm.done (by kernel_rfl) ?_
      replace HB := hide HF.out.1
      replace HP := hide HF.out.2.1
      replace HQ := hide HF.out.2.2.1
      replace PX := hide HF.out.2.2.2.1
      replace PY := hide HF.out.2.2.2.2.1
      replace HJ := hide HF.out.2.2.2.2.2.1
      replace JX := hide HF.out.2.2.2.2.2.2
      clear HF
      have j0 := JX.out.cell0
      have j1 := JX.out.cell1
      have j2 := JX.out.cell2
      have j3 := JX.out.cell3
      go_wp2_with fail
      refine (empty_no2 _ J _ EJ.out HJ.out).mono ?_
      rintro e w9 ⟨rfl, hb⟩
      replace HB := hide (HB.out.trans (hb.mono HB.out.size))
      clear hb j0 j1 j2 j3
      go_wp2_with fail
      refine (live_any _).mono ?_
      rintro e w10 ⟨rfl, hb⟩
      replace HB := hide (HB.out.trans (hb.mono HB.out.size))
      clear hb
      go_wp2
      go_ret
      exact ⟨rfl, HB.out⟩
    | true =>
      have GQ := hide hq
      clear hq
      go_wp2_with fail
      refine (join_right _ _ p q _ HP.out HQ.out GP.out GQ.out).mono ?_
      obtain ⟨J, hJ⟩ : ∃ J, J = joinP p q := ⟨_, rfl⟩
      obtain ⟨ec, hec⟩ : ∃ ec, ec = joinE p q := ⟨_, rfl⟩
      rw [← hJ, ← hec]
      have EJ := hide hJ
      have EC := hide hec
      clear hJ hec
      rintro e w5 ⟨⟨vj, rfl, hj⟩, hb⟩
      have HJ := hide hj
      obtain ⟨a3, k3, a4, k4, rfl, _, _⟩ := hj
      replace HP := hide (HP.out.below hb)
      replace HQ := hide (HQ.out.below hb)
      replace PX := hide (PX.out.step hb)
      replace PY := hide (PY.out.step hb)
      replace HB := hide (HB.out.trans (hb.mono HB.out.size))
      clear hb
      clear c0 c1 c2 c3 d0 d1 d2 d3
      go_upto_region 6 with fail
      have hb := below_alloc w5 (.cells #[.int .i64 J.ins, .int .i64 J.regs, .slice a3 J.code.length k3, .slice a4 J.outs.length k4] 25)
      have JX := hide (Box4.new w5 25 (.int .i64 J.ins) (.int .i64 J.regs) (.slice a3 J.code.length k3) (.slice a4 J.outs.length k4))
      replace HJ := hide (HJ.out.below hb)
      replace HP := hide (HP.out.below hb)
      replace HQ := hide (HQ.out.below hb)
      replace PX := hide (PX.out.step hb)
      replace PY := hide (PY.out.step hb)
      replace HB := hide (HB.out.trans (hb.mono HB.out.size))
      clear hb
      generalize w5.alloc (.cells #[.int .i64 J.ins, .int .i64 J.regs, .slice a3 J.code.length k3, .slice a4 J.outs.length k4] 25) = w6 at *
      generalize w5.heap.size = gj at *
      refine wp_calm (fun w' => Below w.heap.size w w' ∧ PgAt w' (.agg #[.int .i64 p.ins, .int .i64 p.regs, .slice ca p.code.length cc, .slice oa p.outs.length oc]) p ∧ PgAt w' (.agg #[.int .i64 q.ins, .int .i64 q.regs, .slice ca2 q.code.length cc2, .slice oa2 q.outs.length oc2]) q ∧ Box4 w' B 25 (.int .i64 p.ins) (.int .i64 p.regs) (.slice ca p.code.length cc) (.slice oa p.outs.length oc) ∧ Box4 w' C 25 (.int .i64 q.ins) (.int .i64 q.regs) (.slice ca2 q.code.length cc2) (.slice oa2 q.outs.length oc2) ∧ PgAt w' (.agg #[.int .i64 J.ins, .int .i64 J.regs, .slice a3 J.code.length k3, .slice a4 J.outs.length k4]) J ∧ Box4 w' gj 25 (.int .i64 J.ins) (.int .i64 J.regs) (.slice a3 J.code.length k3) (.slice a4 J.outs.length k4)) (fun _ => true) 6 #[false, false, false, false, false, false] (by kernel_rfl) rfl rfl ?_
      have HF := hide (And.intro HB.out.drew (And.intro (PgAt.drew HP.out) (And.intro (PgAt.drew HQ.out) (And.intro PX.out.drew (And.intro PY.out.drew (And.intro (PgAt.drew HJ.out) JX.out.drew))))))
      generalize w6.drew = w6d at *
      refine Calm.take (i := 0) (v := ?_) (a' := ?_) (l' := #[true, false, false, false, false, false]) (d := some 33) rfl (by kernel_rfl) (by kernel_rfl) (by kernel_rfl) (by kernel_rfl) (fun _ _ _ h => h) HF.out rfl ?_ rfl rfl ?_ ?_
      rotate_left
      · intro w' hF; have f30 := hF.2.2.2.1.cell0; have f31 := hF.2.2.2.1.cell1; have f32 := hF.2.2.2.1.cell2; have f33 := hF.2.2.2.1.cell3; have f40 := hF.2.2.2.2.1.cell0; have f41 := hF.2.2.2.2.1.cell1; have f42 := hF.2.2.2.2.1.cell2; have f43 := hF.2.2.2.2.1.cell3; have f60 := hF.2.2.2.2.2.2.cell0; have f61 := hF.2.2.2.2.2.2.cell1; have f62 := hF.2.2.2.2.2.2.cell2; have f63 := hF.2.2.2.2.2.2.cell3; clear hF; go_simp; try rfl
      rotate_left
      · simp only [Act.put]; exact rfl
      refine Calm.take (i := 2) (v := ?_) (a' := ?_) (l' := #[true, false, true, false, false, false]) (d := some 35) rfl (by kernel_rfl) (by kernel_rfl) (by kernel_rfl) (by kernel_rfl) (fun _ _ _ h => h) HF.out rfl ?_ rfl rfl ?_ ?_
      rotate_left
      · intro w' hF; have f30 := hF.2.2.2.1.cell0; have f31 := hF.2.2.2.1.cell1; have f32 := hF.2.2.2.1.cell2; have f33 := hF.2.2.2.1.cell3; have f40 := hF.2.2.2.2.1.cell0; have f41 := hF.2.2.2.2.1.cell1; have f42 := hF.2.2.2.2.1.cell2; have f43 := hF.2.2.2.2.1.cell3; have f60 := hF.2.2.2.2.2.2.cell0; have f61 := hF.2.2.2.2.2.2.cell1; have f62 := hF.2.2.2.2.2.2.cell2; have f63 := hF.2.2.2.2.2.2.cell3; clear hF; go_simp; try rfl
      rotate_left
      · simp only [Act.put]; exact rfl
      refine Calm.one (i := 1) (l' := #[true, true, true, false, false, false]) (by kernel_rfl) rfl rfl rfl fun K hK => ?_
      go_simp
      refine (rright_any _ p _ HF.out.2.1).mono ?_
      rintro e w7 ⟨rfl, hb⟩
      rw [GP.out]
      have HF' := hide (And.intro (HF.out.1.trans ((hb).mono HF.out.1.size)) (And.intro (HF.out.2.1.below (hb)) (And.intro (HF.out.2.2.1.below (hb)) (And.intro (HF.out.2.2.2.1.step (hb)) (And.intro (HF.out.2.2.2.2.1.step (hb)) (And.intro (HF.out.2.2.2.2.2.1.below (hb)) (HF.out.2.2.2.2.2.2.step (hb))))))))
      refine hK _ _ (fun _ => HF'.out) ?_
      clear hK K HF hb
      have HF := hide HF'.out
      clear HF'
      refine Calm.one (i := 3) (l' := #[true, true, true, true, false, false]) (by kernel_rfl) rfl rfl rfl fun K hK => ?_
      go_simp
      refine (rright_any _ q _ HF.out.2.2.1).mono ?_
      rintro e w8 ⟨rfl, hb⟩
      rw [GQ.out]
      have HF' := hide (And.intro (HF.out.1.trans ((hb).mono HF.out.1.size)) (And.intro (HF.out.2.1.below (hb)) (And.intro (HF.out.2.2.1.below (hb)) (And.intro (HF.out.2.2.2.1.step (hb)) (And.intro (HF.out.2.2.2.2.1.step (hb)) (And.intro (HF.out.2.2.2.2.2.1.below (hb)) (HF.out.2.2.2.2.2.2.step (hb))))))))
      refine hK _ _ (fun _ => HF'.out) ?_
      clear hK K HF hb
      have HF := hide HF'.out
      clear HF'
      refine Calm.take (i := 4) (v := ?_) (a' := ?_) (l' := #[true, true, true, true, true, false]) (d := some 7) rfl (by kernel_rfl) (by kernel_rfl) (by kernel_rfl) (by kernel_rfl) (fun _ _ _ h => h) HF.out rfl ?_ rfl rfl ?_ ?_
      rotate_left
      · intro w' hF; clear hF; go_simp; try rfl
      rotate_left
      · simp only [Act.put]; exact rfl
      refine Calm.take (i := 5) (v := ?_) (a' := ?_) (l' := #[true, true, true, true, true, true]) (d := some 8) rfl (by kernel_rfl) (by kernel_rfl) (by kernel_rfl) (by kernel_rfl) (fun _ _ _ h => h) HF.out rfl ?_ rfl rfl ?_ ?_
      rotate_left
      · intro w' hF; clear hF; go_simp; try rfl
      rotate_left
      · simp only [Act.put]; exact rfl
      refine Calm.done (by kernel_rfl) ?_
      replace HB := hide HF.out.1
      replace HP := hide HF.out.2.1
      replace HQ := hide HF.out.2.2.1
      replace PX := hide HF.out.2.2.2.1
      replace PY := hide HF.out.2.2.2.2.1
      replace HJ := hide HF.out.2.2.2.2.2.1
      replace JX := hide HF.out.2.2.2.2.2.2
      clear HF
      have c0 := PX.out.cell0
      have c1 := PX.out.cell1
      have c2 := PX.out.cell2
      have c3 := PX.out.cell3
      have d0 := PY.out.cell0
      have d1 := PY.out.cell1
      have d2 := PY.out.cell2
      have d3 := PY.out.cell3
      go_wp2_with fail
      refine (rjoin_any _ _ p q _ HP.out HQ.out GP.out GQ.out).mono ?_
      rw [← EJ.out, ← EC.out]
      rintro e w9 ⟨⟨vk, rfl, hk⟩, hb⟩
      have HK := hide hk
      obtain ⟨a5, k5, a6, k6, rfl, _, _⟩ := hk
      replace HP := hide (HP.out.below hb)
      replace HQ := hide (HQ.out.below hb)
      replace PX := hide (PX.out.step hb)
      replace PY := hide (PY.out.step hb)
      replace HJ := hide (HJ.out.below hb)
      replace JX := hide (JX.out.step hb)
      replace HB := hide (HB.out.trans (hb.mono HB.out.size))
      clear hb
      clear c0 c1 c2 c3 d0 d1 d2 d3
      go_upto_region 10 with fail
      have hb := below_alloc w9 (.cells #[.int .i64 J.ins, .int .i64 J.regs, .slice a5 J.code.length k5, .slice a6 J.outs.length k6] 25)
      have KX := hide (Box4.new w9 25 (.int .i64 J.ins) (.int .i64 J.regs) (.slice a5 J.code.length k5) (.slice a6 J.outs.length k6))
      replace HK := hide (HK.out.below hb)
      replace HP := hide (HP.out.below hb)
      replace HQ := hide (HQ.out.below hb)
      replace PX := hide (PX.out.step hb)
      replace PY := hide (PY.out.step hb)
      replace HJ := hide (HJ.out.below hb)
      replace JX := hide (JX.out.step hb)
      replace HB := hide (HB.out.trans (hb.mono HB.out.size))
      clear hb
      generalize w9.alloc (.cells #[.int .i64 J.ins, .int .i64 J.regs, .slice a5 J.code.length k5, .slice a6 J.outs.length k6] 25) = w10 at *
      generalize w9.heap.size = gk at *
      have j0 := JX.out.cell0
      have j1 := JX.out.cell1
      have j2 := JX.out.cell2
      have j3 := JX.out.cell3
      have k0 := KX.out.cell0
      have k1 := KX.out.cell1
      have k2 := KX.out.cell2
      have k3 := KX.out.cell3
      have hn : (ec != ec) = false := by simp
      go_wp2_with fail
      refine (rsame_any _ _ J J _ HJ.out HK.out).mono ?_
      rintro e w11 ⟨rfl, hb⟩
      rw [eqB_yes rfl]
      replace HP := hide (HP.out.below hb)
      replace HQ := hide (HQ.out.below hb)
      replace PX := hide (PX.out.step hb)
      replace PY := hide (PY.out.step hb)
      replace HJ := hide (HJ.out.below hb)
      replace JX := hide (JX.out.step hb)
      replace HB := hide (HB.out.trans (hb.mono HB.out.size))
      clear hb
      clear j0 j1 j2 j3 k0 k1 k2 k3 HK KX
      go_wp2_with fail
      refine (live_any _).mono ?_
      rintro e w12 ⟨rfl, hb⟩
      replace HP := hide (HP.out.below hb)
      replace HQ := hide (HQ.out.below hb)
      replace PX := hide (PX.out.step hb)
      replace PY := hide (PY.out.step hb)
      replace HJ := hide (HJ.out.below hb)
      replace JX := hide (JX.out.step hb)
      replace HB := hide (HB.out.trans (hb.mono HB.out.size))
      clear hb
      clear hn
      by_cases hz : ec = 0
      case neg =>
        have hz' : (ec != 0) = true := by simp [hz]
        go_wp2
        go_ret
        exact ⟨rfl, HB.out⟩
      have JR : Hid (J = joined p q) := hide (by rw [EJ.out]; exact if_pos (by rw [← EC.out]; exact hz))
      have RJ : Hid (rightB J = true) := hide (by rw [JR.out]; exact joined_right GP.out GQ.out (by rw [← EC.out]; exact hz))
      have DJ : Hid (dep J ≤ dep p + dep q + 1) := hide (by rw [JR.out]; exact joined_dep GP.out GQ.out)
      have D1 : Hid (0 ≤ dep p ∧ dep p ≤ 16384) := hide (dep_bound GP.out)
      have D2 : Hid (0 ≤ dep q ∧ dep q ≤ 16384) := hide (dep_bound GQ.out)
      subst hz
      have c0 := PX.out.cell0
      have c1 := PX.out.cell1
      have c2 := PX.out.cell2
      have c3 := PX.out.cell3
      have d0 := PY.out.cell0
      have d1 := PY.out.cell1
      have d2 := PY.out.cell2
      have d3 := PY.out.cell3
      go_wp2_with fail
      refine (depth_right _ p _ HP.out GP.out).mono ?_
      rintro e w13 ⟨rfl, hb⟩
      replace HQ := hide (HQ.out.below hb)
      replace PX := hide (PX.out.step hb)
      replace PY := hide (PY.out.step hb)
      replace HJ := hide (HJ.out.below hb)
      replace JX := hide (JX.out.step hb)
      replace HB := hide (HB.out.trans (hb.mono HB.out.size))
      clear hb
      clear c0 c1 c2 c3 d0 d1 d2 d3
      have c0 := PX.out.cell0
      have c1 := PX.out.cell1
      have c2 := PX.out.cell2
      have c3 := PX.out.cell3
      have d0 := PY.out.cell0
      have d1 := PY.out.cell1
      have d2 := PY.out.cell2
      have d3 := PY.out.cell3
      go_wp2_with fail
      refine (depth_right _ q _ HQ.out GQ.out).mono ?_
      rintro e w14 ⟨rfl, hb⟩
      replace HJ := hide (HJ.out.below hb)
      replace JX := hide (JX.out.step hb)
      replace HB := hide (HB.out.trans (hb.mono HB.out.size))
      clear hb
      clear c0 c1 c2 c3 d0 d1 d2 d3
      have j0 := JX.out.cell0
      have j1 := JX.out.cell1
      have j2 := JX.out.cell2
      have j3 := JX.out.cell3
      go_wp2_with fail
      refine (depth_right _ J _ HJ.out RJ.out).mono ?_
      rintro e w15 ⟨rfl, hb⟩
      replace HJ := hide (HJ.out.below hb)
      replace JX := hide (JX.out.step hb)
      replace HB := hide (HB.out.trans (hb.mono HB.out.size))
      clear hb
      clear j0 j1 j2 j3
      have j0 := JX.out.cell0
      have j1 := JX.out.cell1
      have j2 := JX.out.cell2
      have j3 := JX.out.cell3
      go_wp2_with fail
      refine (check_any _ J _ HJ.out).mono ?_
      rintro e w16 ⟨rfl, hb⟩
      rw [ck_right RJ.out]
      replace HB := hide (HB.out.trans (hb.mono HB.out.size))
      clear hb j0 j1 j2 j3
      have dj := DJ.out
      obtain ⟨d1, d2⟩ := D1.out
      obtain ⟨d3, d4⟩ := D2.out
      generalize dep p = x at *
      generalize dep q = y at *
      generalize dep J = z at *
      go_wp2
      go_ret
      exact ⟨by simp, HB.out⟩
end Go.Proofs.YtlbjkfnknkpkiaaDoor
