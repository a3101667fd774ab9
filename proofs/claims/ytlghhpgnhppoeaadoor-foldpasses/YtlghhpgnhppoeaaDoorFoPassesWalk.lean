/- swagelaw13.FoldPasses answers true at all programs, and turns nothing that was there. -/
import Derived.Test.YtlghhpgnhppoeaaDoorFoRs
import Derived.Test.YtlghhpgnhppoeaaDoorFoWk
import Derived.Test.YtlghhpgnhppoeaaDoorPgRowW
import Derived.Test.YtlghhpgnhppoeaaDoorPgRight
import Derived.Lib.SliceRun
namespace Go.Proofs.YtlghhpgnhppoeaaDoor
open Go.RowKit

set_option linter.unusedVariables false
theorem box4_set {w : World} {Q g : Nat} {t e : TypeId} {x y z u : Value} (h : Box4 w Q t x y z u) {cur : Array Value} {f : Nat × Nat} (hg : w.heap[g]? = some (.cells cur e f)) (hne : e ≠ t) (o : Nat) (c : Value) : Box4 (w.setCell ⟨g, o, none⟩ c) Q t x y z u := by
  have : Q ≠ g := by
    intro e1
    subst e1
    rw [show w.heap[Q]? = _ from h] at hg
    simp only [Option.some.injEq, Obj.cells.injEq] at hg
    exact hne hg.2.1.symm
  exact (Below.heap_setCell w ⟨g, o, none⟩ c Q this).trans h
theorem below_setCells {B : Nat} {a : World} (b : Nat) (hb : B ≤ b) : ∀ (l : List Value) (o : Nat) (w : World), Below B a w → Below B a (w.setCells b o l)
  | [], _, _, h => h
  | v :: r, o, w, h => below_setCells b hb r (o + 1) _ (h.setCell (p := ⟨b, o, none⟩) hb v)
theorem clear_none (w : World) (t e ty : TypeId) (ht : Tryd.prog.underlying t = some (.slice e)) (a : Option Addr) (c : Nat) : (Builtin.clear_ #[t] ty #[.slice a 0 c]).run Tryd.prog w = .ok (.tuple #[]) w := by
  cases a <;> simp [Builtin.clear_, run_underlying ht]
theorem zero_int (w : World) : (zeroValue 3).run Tryd.prog w = .ok (.int .i64 0) w := by kernel_rfl
theorem pg_zero (w : World) : PgAt w (.agg #[.int .i64 0, .int .i64 0, .slice none 0 0, .slice none 0 0]) ⟨0, 0, [], []⟩ :=
  ⟨none, 0, none, 0, rfl, ⟨none, 0, rfl, Nat.le_refl _, Nat.zero_le _, fun h => absurd rfl h⟩, ⟨none, 0, rfl, Nat.le_refl _, Nat.zero_le _, fun h => absurd rfl h⟩⟩
theorem own_lencap {w : World} {base : Nat} {e : TypeId} {size : Nat} {a : Option Addr} {n cap k : Nat} {xs : List Value} (h : w.ownsRow base e size (.slice a n cap) k xs) : n ≤ cap := by
  rcases h.2 with ⟨h0, _⟩ | ⟨g, cap', cur, h0, hg, hh, h1, h2, h3, _⟩
  · simp only [Value.slice.injEq] at h0
    omega
  · simp only [Value.slice.injEq] at h0
    omega
set_option maxRecDepth 100000 in
set_option maxHeartbeats 16000000 in
theorem fpasses_walk (v : Value) (p : Pg) (w : World) (h : PgAt w v p) (hl : p.code.length ≤ 3518437208780 ∧ p.outs.length ≤ 17592186043904) (hT : TabW64 w) :
    Calls Tryd.prog 4 #[v] w fun e w' => e = .returned (.bool true) ∧ Below w.heap.size w w' := by
  have HP := hide h
  have HT0 := hide hT
  have HL := hide hl
  obtain ⟨ca, cc, oa, oc, rfl, hc, ho⟩ := h
  clear hc ho hT hl
  go_enter Tryd.func4, Tryd.ntmps4
  go_upto_region 1 with fail
  have hb := below_alloc w (.cells #[.int .i64 p.ins, .int .i64 p.regs, .slice ca p.code.length cc, .slice oa p.outs.length oc] 36)
  have PX := hide (Box4.new w 36 (.int .i64 p.ins) (.int .i64 p.regs) (.slice ca p.code.length cc) (.slice oa p.outs.length oc))
  replace HP := hide (HP.out.below hb)
  have HB := hide hb
  clear hb
  generalize w.alloc (.cells #[.int .i64 p.ins, .int .i64 p.regs, .slice ca p.code.length cc, .slice oa p.outs.length oc] 36) = w1 at *
  obtain ⟨B, hBB⟩ : ∃ B, B = w.heap.size := ⟨_, rfl⟩
  rw [← hBB] at PX ⊢
  have HZ := hide hBB
  clear hBB
  go_wp2_with fail
  refine (works_any _ (HT0.out.below HB.out)).mono ?_
  rintro e w2 ⟨rfl, hb⟩
  replace HP := hide (HP.out.below hb)
  replace PX := hide (PX.out.step hb)
  replace HB := hide (HB.out.trans (hb.mono HB.out.size))
  clear hb
  have c0 := PX.out.cell0
  have c1 := PX.out.cell1
  have c2 := PX.out.cell2
  have c3 := PX.out.cell3
  go_wp2_with fail
  refine (lg_any _ p _ HP.out).mono ?_
  rintro e w3 ⟨rfl, hb⟩
  replace HP := hide (HP.out.below hb)
  replace PX := hide (PX.out.step hb)
  replace HB := hide (HB.out.trans (hb.mono HB.out.size))
  clear hb
  clear c0 c1 c2 c3
  cases hlg : lgB p with
  | true =>
    go_wp2
    go_ret
    exact ⟨rfl, HB.out⟩
  | false =>
    have LG := hide hlg
    clear hlg
    have c0 := PX.out.cell0
    have c1 := PX.out.cell1
    have c2 := PX.out.cell2
    have c3 := PX.out.cell3
    go_wp2_with fail
    refine (rcopy_big _ p _ HP.out ⟨by have := HL.out.1; omega, by have := HL.out.2; omega⟩).mono ?_
    rintro e w4 ⟨⟨vk, rfl, hown⟩, hb⟩
    have hk := hown.at
    obtain ⟨a3, k3, a4, k4, hv, _, _⟩ := id hk
    replace hv : vk = .agg #[.int .i64 p.ins, .int .i64 p.regs, .slice a3 p.code.length k3, .slice a4 p.outs.length k4] := hv
    subst hv
    have HK := hide hk
    clear hown hk
    clear c0 c1 c2 c3
    replace HP := hide (HP.out.below hb)
    replace PX := hide (PX.out.step hb)
    replace HB := hide (HB.out.trans (hb.mono HB.out.size))
    clear hb
    go_upto_region 6 with fail
    have hb := below_alloc w4 (.cells #[.int .i64 p.ins, .int .i64 p.regs, .slice a3 p.code.length k3, .slice a4 p.outs.length k4] 36)
    have KX : Hid (Box4 (w4.alloc (.cells #[.int .i64 p.ins, .int .i64 p.regs, .slice a3 p.code.length k3, .slice a4 p.outs.length k4] 36)) w4.heap.size 36 (.int .i64 p.ins) (.int .i64 p.regs) (.slice a3 p.code.length k3) (.slice a4 p.outs.length k4)) := hide (Box4.new w4 36 _ _ _ _)
    replace HP := hide (HP.out.below hb)
    replace HK := hide (HK.out.below hb)
    replace PX := hide (PX.out.step hb)
    replace HB := hide (HB.out.trans (hb.mono HB.out.size))
    clear hb
    generalize w4.alloc (.cells #[.int .i64 p.ins, .int .i64 p.regs, .slice a3 p.code.length k3, .slice a4 p.outs.length k4] 36) = w5 at *
    generalize w4.heap.size = K at *
    have c0 := PX.out.cell0
    have c1 := PX.out.cell1
    have c2 := PX.out.cell2
    have c3 := PX.out.cell3
    go_wp2_with fail
    refine (pass_any _ p _ HP.out (HT0.out.below HB.out)).mono ?_
    rintro e w6 ⟨hR, hb⟩
    unfold PassR at hR
    cases hr : rightB p with
    | false =>
      rw [hr, if_neg (by decide)] at hR
      subst hR
      have RP := hide hr
      clear hr
      clear c0 c1 c2 c3
      replace HP := hide (HP.out.below hb)
      replace HK := hide (HK.out.below hb)
      replace PX := hide (PX.out.step hb)
      replace KX := hide (KX.out.step hb)
      replace HB := hide (HB.out.trans (hb.mono HB.out.size))
      clear hb
      go_upto_region 7 with fail
      have hb := below_alloc w6 (.cells #[.int .i64 0, .int .i64 0, .slice none 0 0, .slice none 0 0] 36)
      have QX : Hid (Box4 (w6.alloc (.cells #[.int .i64 0, .int .i64 0, .slice none 0 0, .slice none 0 0] 36)) w6.heap.size 36 (.int .i64 0) (.int .i64 0) (.slice none 0 0) (.slice none 0 0)) := hide (Box4.new w6 36 _ _ _ _)
      replace HP := hide (HP.out.below hb)
      replace HK := hide (HK.out.below hb)
      replace PX := hide (PX.out.step hb)
      replace KX := hide (KX.out.step hb)
      replace HB := hide (HB.out.trans (hb.mono HB.out.size))
      clear hb
      generalize w6.alloc (.cells #[.int .i64 0, .int .i64 0, .slice none 0 0, .slice none 0 0] 36) = w7 at *
      generalize w6.heap.size = Q at *
      have c0 := PX.out.cell0
      have c1 := PX.out.cell1
      have c2 := PX.out.cell2
      have c3 := PX.out.cell3
      have d0 := KX.out.cell0
      have d1 := KX.out.cell1
      have d2 := KX.out.cell2
      have d3 := KX.out.cell3
      go_wp2_with fail
      refine (rsame_any _ _ p p _ HK.out HP.out).mono ?_
      rintro e w8 ⟨rfl, hb⟩
      rw [eqB_yes rfl]
      clear c0 c1 c2 c3 d0 d1 d2 d3
      replace HP := hide (HP.out.below hb)
      replace HK := hide (HK.out.below hb)
      replace PX := hide (PX.out.step hb)
      replace KX := hide (KX.out.step hb)
      replace QX := hide (QX.out.step hb)
      replace HB := hide (HB.out.trans (hb.mono HB.out.size))
      clear hb
      have c0 := PX.out.cell0
      have c1 := PX.out.cell1
      have c2 := PX.out.cell2
      have c3 := PX.out.cell3
      go_wp2_with fail
      refine (rright_any _ p _ HP.out).mono ?_
      rintro e w9 ⟨rfl, hb⟩
      rw [RP.out]
      clear c0 c1 c2 c3
      replace HP := hide (HP.out.below hb)
      replace QX := hide (QX.out.step hb)
      replace HB := hide (HB.out.trans (hb.mono HB.out.size))
      clear hb
      have d0 := QX.out.cell0
      have d1 := QX.out.cell1
      have d2 := QX.out.cell2
      have d3 := QX.out.cell3
      go_wp2_with fail
      refine (rsame_any _ _ ⟨0, 0, [], []⟩ ⟨0, 0, [], []⟩ _ (pg_zero _) (pg_zero _)).mono ?_
      rintro e w10 ⟨rfl, hb⟩
      rw [eqB_yes rfl]
      clear d0 d1 d2 d3
      replace HB := hide (HB.out.trans (hb.mono HB.out.size))
      clear hb
      go_wp2
      go_ret
      exact ⟨by first | rfl | simp, HB.out⟩
    | true =>
      rw [hr, if_pos rfl] at hR
      obtain ⟨vq, rfl, vc, vo, hv, h1, h2⟩ := hR
      obtain ⟨qa, qc, rfl⟩ := own_slice h1
      obtain ⟨ra, rc, rfl⟩ := own_slice h2
      replace hv : vq = .agg #[.int .i64 p.ins, .int .i64 p.regs, .slice qa (fold p.code).length qc, .slice ra p.outs.length rc] := hv
      subst hv
      have OC := hide h1
      have OO := hide h2
      have RP := hide hr
      clear hr h1 h2
      clear c0 c1 c2 c3
      have HB0 := HB
      have HW := hide hb
      replace HB := hide (HB.out.trans (hb.mono HB.out.size))
      clear hb
      go_upto_region 7 with fail
      have hb := below_alloc w6 (.cells #[.int .i64 p.ins, .int .i64 p.regs, .slice qa (fold p.code).length qc, .slice ra p.outs.length rc] 36)
      have QX : Hid (Box4 (w6.alloc (.cells #[.int .i64 p.ins, .int .i64 p.regs, .slice qa (fold p.code).length qc, .slice ra p.outs.length rc] 36)) w6.heap.size 36 (.int .i64 p.ins) (.int .i64 p.regs) (.slice qa (fold p.code).length qc) (.slice ra p.outs.length rc)) := hide (Box4.new w6 36 _ _ _ _)
      have QL := hide HW.out.size
      replace OC := hide (own_below OC.out hb)
      replace OO := hide (own_below OO.out hb)
      replace HW := hide (HW.out.trans (hb.mono HW.out.size))
      clear hb HB
      generalize w6.alloc (.cells #[.int .i64 p.ins, .int .i64 p.regs, .slice qa (fold p.code).length qc, .slice ra p.outs.length rc] 36) = w7 at *
      generalize w6.heap.size = Q at *
      have c0 := (PX.out.step HW.out).cell0
      have c1 := (PX.out.step HW.out).cell1
      have c2 := (PX.out.step HW.out).cell2
      have c3 := (PX.out.step HW.out).cell3
      have d0 := (KX.out.step HW.out).cell0
      have d1 := (KX.out.step HW.out).cell1
      have d2 := (KX.out.step HW.out).cell2
      have d3 := (KX.out.step HW.out).cell3
      go_wp2_with fail
      refine (rsame_any _ _ p p _ (HK.out.below HW.out) (HP.out.below HW.out)).mono ?_
      rintro e w8 ⟨rfl, hb⟩
      rw [eqB_yes rfl]
      clear c0 c1 c2 c3 d0 d1 d2 d3
      replace OC := hide (own_below OC.out hb)
      replace OO := hide (own_below OO.out hb)
      replace QX := hide (QX.out.step hb)
      replace HW := hide (HW.out.trans (hb.mono HW.out.size))
      clear hb
      have c0 := (PX.out.step HW.out).cell0
      have c1 := (PX.out.step HW.out).cell1
      have c2 := (PX.out.step HW.out).cell2
      have c3 := (PX.out.step HW.out).cell3
      go_wp2_with fail
      refine (rright_any _ p _ (HP.out.below HW.out)).mono ?_
      rintro e w9 ⟨rfl, hb⟩
      rw [RP.out]
      clear c0 c1 c2 c3
      replace OC := hide (own_below OC.out hb)
      replace OO := hide (own_below OO.out hb)
      replace QX := hide (QX.out.step hb)
      replace HW := hide (HW.out.trans (hb.mono HW.out.size))
      clear hb
      go_upto_region 11 with fail
      have LE : Hid (p.code.length ≤ 400) := hide (by have h1 := LG.out; have h2 := (right_parts RP.out); obtain ⟨p1, p2, p3, p4, p5, p6, p7, p8⟩ := h2; unfold lgB at h1; simp at h1; omega)
      refine wp_calm (fun w' => Below w9.heap.size w9 w') (fun _ => true) 9 #[false, false, false, false, false, false, false, false, false] (by kernel_rfl) rfl rfl ?_
      have HF := hide ((Below.refl w9.heap.size w9).drew)
      generalize w9.drew = w9d at *
      refine Calm.takeL 9 (i := 0) (v := ?_) (a' := ?_) (l' := #[true, false, false, false, false, false, false, false, false]) (d := some 32) (by kernel_rfl) rfl (by kernel_rfl) (by kernel_rfl) (by kernel_rfl) (by kernel_rfl) (fun _ _ _ h => h) HF.out rfl ?_ rfl rfl ?_ ?_
      rotate_left
      · intro w' hF; clear hF; go_simp; try rfl
      rotate_left
      · simp only [Act.put]; exact rfl
      refine Calm.takeL 9 (i := 1) (v := ?_) (a' := ?_) (l' := #[true, true, false, false, false, false, false, false, false]) (d := some 33) (by kernel_rfl) rfl (by kernel_rfl) (by kernel_rfl) (by kernel_rfl) (by kernel_rfl) (fun _ _ _ h => h) HF.out rfl ?_ rfl rfl ?_ ?_
      rotate_left
      · intro w' hF; clear hF; go_simp; try rfl
      rotate_left
      · simp only [Act.put]; exact rfl
      refine Calm.takeL 9 (i := 2) (v := ?_) (a' := ?_) (l' := #[true, true, true, false, false, false, false, false, false]) (d := some 34) (by kernel_rfl) rfl (by kernel_rfl) (by kernel_rfl) (by kernel_rfl) (by kernel_rfl) (fun _ _ _ h => h) HF.out rfl ?_ rfl rfl ?_ ?_
      rotate_left
      · intro w' hF; clear hF; go_simp; try rfl
      rotate_left
      · simp only [Act.put]; exact rfl
      refine Calm.takeL 9 (i := 3) (v := ?_) (a' := ?_) (l' := #[true, true, true, true, false, false, false, false, false]) (d := some 35) (by kernel_rfl) rfl (by kernel_rfl) (by kernel_rfl) (by kernel_rfl) (by kernel_rfl) (fun _ _ _ h => h) HF.out (by kernel_rfl) ?_ rfl rfl ?_ ?_
      rotate_left
      · intro w' hF; have e0 := ((PX.out.step HW.out).step hF).cell0; have e1 := ((PX.out.step HW.out).step hF).cell1; have e2 := ((PX.out.step HW.out).step hF).cell2; have e3 := ((PX.out.step HW.out).step hF).cell3; have g0 := (QX.out.step hF).cell0; have g1 := (QX.out.step hF).cell1; have g2 := (QX.out.step hF).cell2; have g3 := (QX.out.step hF).cell3; clear hF; go_simp; try rfl
      rotate_left
      · simp only [Act.put]; exact rfl
      refine Calm.takeL 9 (i := 4) (v := ?_) (a' := ?_) (l' := #[true, true, true, true, true, false, false, false, false]) (d := some 36) (by kernel_rfl) rfl (by kernel_rfl) (by kernel_rfl) (by kernel_rfl) (by kernel_rfl) (fun _ _ _ h => h) HF.out (by kernel_rfl) ?_ rfl rfl ?_ ?_
      rotate_left
      · intro w' hF; have e0 := ((PX.out.step HW.out).step hF).cell0; have e1 := ((PX.out.step HW.out).step hF).cell1; have e2 := ((PX.out.step HW.out).step hF).cell2; have e3 := ((PX.out.step HW.out).step hF).cell3; have g0 := (QX.out.step hF).cell0; have g1 := (QX.out.step hF).cell1; have g2 := (QX.out.step hF).cell2; have g3 := (QX.out.step hF).cell3; clear hF; go_simp; try rfl
      rotate_left
      · simp only [Act.put]; exact rfl
      refine Calm.one (i := 5) (l' := #[true, true, true, true, true, true, false, false, false]) (by kernel_rfl) rfl (by kernel_rfl) rfl fun K hK => ?_
      go_simp
      refine (rpass_any _ p _ ((HP.out.below HW.out).below HF.out) RP.out LE.out).mono ?_
      rintro e u1 ⟨⟨v2, rfl, ho⟩, hb⟩
      have H2 := hide ho.at
      clear ho
      have HF' := hide (HF.out.trans ((hb).mono HF.out.size))
      refine hK _ _ (fun _ => HF'.out) ?_
      clear hK K HF hb
      have HF := hide HF'.out
      clear HF'
      refine Calm.one (i := 6) (l' := #[true, true, true, true, true, true, true, false, false]) (by kernel_rfl) rfl (by kernel_rfl) rfl fun K hK => ?_
      go_simp
      refine (rsame_any _ _ (pasP p) (pasP p) _ ((OwnPg.at (p := pasP p) ⟨_, _, rfl, OC.out, OO.out⟩).below HF.out) H2.out).mono ?_
      rintro e u2 ⟨rfl, hb⟩
      rw [eqB_yes rfl]
      have HF' := hide (HF.out.trans ((hb).mono HF.out.size))
      refine hK _ _ (fun _ => HF'.out) ?_
      clear hK K HF hb
      have HF := hide HF'.out
      clear HF'
      refine Calm.takeL 9 (i := 7) (v := ?_) (a' := ?_) (l' := #[true, true, true, true, true, true, true, true, false]) (d := some 39) (by kernel_rfl) rfl (by kernel_rfl) (by kernel_rfl) (by kernel_rfl) (by kernel_rfl) (fun _ _ _ h => h) HF.out (by kernel_rfl) ?_ rfl rfl ?_ ?_
      rotate_left
      · intro w' hF; clear hF; go_simp; try rfl
      rotate_left
      · simp only [Act.put]; exact rfl
      refine Calm.takeL 9 (i := 8) (v := ?_) (a' := ?_) (l' := #[true, true, true, true, true, true, true, true, true]) (d := some 40) (by kernel_rfl) rfl (by kernel_rfl) (by kernel_rfl) (by kernel_rfl) (by kernel_rfl) (fun _ _ _ h => h) HF.out rfl ?_ rfl rfl ?_ ?_
      rotate_left
      · intro w' hF; clear hF; go_simp; try rfl
      rotate_left
      · simp only [Act.put]; exact rfl
      refine Calm.done (by kernel_rfl) ?_
      have hb := HF.out
      replace OC := hide (own_below OC.out hb)
      replace OO := hide (own_below OO.out hb)
      replace QX := hide (QX.out.step hb)
      replace HW := hide (HW.out.trans (hb.mono HW.out.size))
      clear hb
      have FL : Hid ((fold p.code).length ≤ qc ∧ p.outs.length ≤ rc) := hide ⟨own_lencap OC.out, own_lencap OO.out⟩
      have RS : Hid ((RowW u2 w5.heap.size 24 5 (.slice qa qc qc) qc) ∧ RowW u2 w5.heap.size 3 1 (.slice ra rc rc) rc) := hide ⟨own_cap OC.out, own_cap OO.out⟩
      clear OC OO HF H2
      have FL2 : (fold p.code).length ≤ 400 := by have := fold_length p.code; have := LE.out; omega
      have q2 := QX.out.cell2
      go_wp2
      clear q2
      go_loopw [44, 6] (fun kv _ wr => ∃ k : Nat, k ≤ (fold p.code).length ∧ kv = .int .i64 k ∧ Below w5.heap.size w5 wr ∧ Box4 wr Q 36 (.int .i64 p.ins) (.int .i64 p.regs) (.slice qa (fold p.code).length qc) (.slice ra p.outs.length rc) ∧ (RowW wr w5.heap.size 24 5 (.slice qa qc qc) qc) ∧ RowW wr w5.heap.size 3 1 (.slice ra rc rc) rc) (fun kv _ _ => (fold p.code).length - (intOf kv).toNat)
      case atStart => exact ⟨0, Nat.zero_le _, rfl, HW.out, QX.out, RS.out⟩
      case round =>
        clear HW QX RS
        obtain ⟨k, hk, rfl, hwr, hqx, hrs⟩ := hrel
        have HW := hide hwr
        have QX := hide hqx
        have RS := hide hrs
        clear hwr hqx hrs
        have q2 := QX.out.cell2
        by_cases hlt : k < (fold p.code).length
        · obtain ⟨g, rfl⟩ := row_some RS.out.1 (by have := FL.out.1; omega)
          obtain ⟨⟨z1, e1⟩, f1⟩ := row_cell RS.out.1 (j := k * 5 + 1) (by have := FL.out.1; omega)
          have GE := hide (row_block RS.out.1)
          go_wp2
          go_roundw
          case rel =>
            obtain ⟨hge, cur, hg, _⟩ := GE.out
            exact ⟨k + 1, by omega, by go_num, HW.out.setCell (p := ⟨g, _, none⟩) hge _, box4_set QX.out hg (by decide) _ _, rows_set RS.out (by decide) _ _⟩
          case measure => simp [intOf]; omega
        · have e : k = (fold p.code).length := by omega
          subst e
          clear q2
          have q3 := QX.out.cell3
          have fin : ∀ wz, Below w5.heap.size w5 wz → Below w5.heap.size w5 wz := fun _ h => h
          by_cases ho : p.outs.length = 0
          · have hcl : ∀ ty, (Builtin.clear_ #[34] ty #[.slice ra p.outs.length rc]).run Tryd.prog wr = .ok (.tuple #[]) wr := fun ty => by rw [ho]; exact clear_none wr _ _ ty Tryd.underlying34 _ _
            clear ho
            go_upto_region 19 with fail
            clear hcl q3
            obtain ⟨wz, hwz⟩ : ∃ x, x = wr := ⟨_, rfl⟩
            rw [← hwz]
            replace HW : Hid (Below w5.heap.size w5 wz) := hide (by rw [hwz]; exact HW.out)
            clear hwz
            have c0 := (PX.out.step HW.out).cell0
            have c1 := (PX.out.step HW.out).cell1
            have c2 := (PX.out.step HW.out).cell2
            have c3 := (PX.out.step HW.out).cell3
            have d0 := (KX.out.step HW.out).cell0
            have d1 := (KX.out.step HW.out).cell1
            have d2 := (KX.out.step HW.out).cell2
            have d3 := (KX.out.step HW.out).cell3
            go_wp2_with fail
            refine (rsame_any _ _ p p _ (HK.out.below HW.out) (HP.out.below HW.out)).mono ?_
            rintro e w16 ⟨rfl, hb⟩
            rw [eqB_yes rfl]
            clear c0 c1 c2 c3 d0 d1 d2 d3
            replace HW := hide (HW.out.trans (hb.mono HW.out.size))
            go_wp2
            go_ret
            exact ⟨rfl, HB0.out.trans (HW.out.mono HB0.out.size)⟩
          · obtain ⟨g, rfl⟩ := row_some RS.out.2 (by have := FL.out.2; omega)
            have hcl : ∀ ty, (Builtin.clear_ #[34] ty #[.slice (some ⟨g, 0, none⟩) p.outs.length rc]).run Tryd.prog wr = .ok (.tuple #[]) (wr.setCells g 0 (List.replicate p.outs.length (.int .i64 0))) := fun ty => Lib.run_clear_slice wr _ _ ty _ Tryd.underlying34 zero_int rfl rfl g 0 _ _ (by omega) (fun j hj => by obtain ⟨⟨z, hz⟩, _⟩ := row_cell RS.out.2 (j := j) (by have := FL.out.2; omega); rw [Nat.zero_add, hz]; rfl) (fun j hj => by rw [Nat.zero_add]; exact (row_cell RS.out.2 (j := j) (by have := FL.out.2; omega)).2)
            have GE := hide (row_block RS.out.2).1
            generalize hset : wr.setCells g 0 (List.replicate p.outs.length (.int .i64 0)) = ws at hcl
            replace HW : Hid (Below w5.heap.size w5 ws) := hide (by rw [← hset]; exact below_setCells g GE.out _ _ _ HW.out)
            clear hset
            go_upto_region 19 with fail
            clear hcl q3
            obtain ⟨wz, hwz⟩ : ∃ x, x = ws := ⟨_, rfl⟩
            rw [← hwz]
            replace HW : Hid (Below w5.heap.size w5 wz) := hide (by rw [hwz]; exact HW.out)
            clear hwz
            have c0 := (PX.out.step HW.out).cell0
            have c1 := (PX.out.step HW.out).cell1
            have c2 := (PX.out.step HW.out).cell2
            have c3 := (PX.out.step HW.out).cell3
            have d0 := (KX.out.step HW.out).cell0
            have d1 := (KX.out.step HW.out).cell1
            have d2 := (KX.out.step HW.out).cell2
            have d3 := (KX.out.step HW.out).cell3
            go_wp2_with fail
            refine (rsame_any _ _ p p _ (HK.out.below HW.out) (HP.out.below HW.out)).mono ?_
            rintro e w16 ⟨rfl, hb⟩
            rw [eqB_yes rfl]
            clear c0 c1 c2 c3 d0 d1 d2 d3
            replace HW := hide (HW.out.trans (hb.mono HW.out.size))
            go_wp2
            go_ret
            exact ⟨rfl, HB0.out.trans (HW.out.mono HB0.out.size)⟩
end Go.Proofs.YtlghhpgnhppoeaaDoor
