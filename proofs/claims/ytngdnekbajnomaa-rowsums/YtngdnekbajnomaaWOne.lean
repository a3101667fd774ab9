/- swagelaw04's one, is, own. -/
import Derived.Test.YtngdnekbajnomaaWRef
namespace Go.Proofs.Ytngdnekbajnomaa
open Go.RowKit

theorem sg_dec4 (z : Int) : sg (decide (z < 0)) (val (lim z.natAbs)) = z := by
  rw [val_lim]
  by_cases h : z < 0
  · rw [decide_eq_true h, sg_true]; omega
  · rw [decide_eq_false h, sg_false]; omega
set_option maxRecDepth 100000 in
set_option maxHeartbeats 2000000 in
theorem rsame4_yes (v1 v2 : Value) (x : Int) (w : World) (h1 : RInt w v1 x) (h2 : RInt w v2 x) :
    Calls Try.prog 44 #[v1, v2] w fun e w' => e = .returned (.bool true) ∧ Below w.heap.size w w' := by
  obtain ⟨s1, m1, n1, c1, rfl, i1⟩ : ∃ s9 m9 l9 c9, v1 = .agg #[.bool s9, .slice m9 l9 c9] ∧ RInt w (.agg #[.bool s9, .slice m9 l9 c9]) x := by obtain ⟨b, j, a, c, rfl, hx⟩ := h1; exact ⟨b, a, _, c, rfl, b, j, a, c, rfl, hx⟩
  obtain ⟨s2, m2, n2, c2, rfl, i2⟩ : ∃ s9 m9 l9 c9, v2 = .agg #[.bool s9, .slice m9 l9 c9] ∧ RInt w (.agg #[.bool s9, .slice m9 l9 c9]) x := by obtain ⟨b, j, a, c, rfl, hx⟩ := h2; exact ⟨b, a, _, c, rfl, b, j, a, c, rfl, hx⟩
  have HE := hide (nboxes2 39 w (.bool s1) (.slice m1 n1 c1) (.bool s2) (.slice m2 n2 c2))
  have I1 := hide (i1.below HE.out.2.2)
  have I2 := hide (i2.below HE.out.2.2)
  have HB := hide HE.out.2.2
  clear h1 h2 i1 i2 HE
  go_enter Try.func44, Try.ntmps44
  go_wp2_with fail
  refine (rcmp_any _ _ x x _ I1.out I2.out).mono ?_
  rintro e w1 ⟨rfl, hb⟩
  rw [cmpZ_self]
  replace HB := hide (HB.out.trans (hb.mono HB.out.size))
  clear hb I1 I2
  go_wp2
  go_ret
  exact ⟨rfl, HB.out⟩

set_option maxRecDepth 100000 in
set_option maxHeartbeats 4000000 in
theorem one_yes (v u : Value) (z : Int) (w : World) (h : IntAt w v z) (k : RInt w u z) (hl : (lim z.natAbs).length ≤ 1000000000) :
    Calls Try.prog 23 #[v, u] w fun e w' => e = .returned (.bool true) ∧ Below w.heap.size w w' := by
  have HL := hide hl
  obtain ⟨sx, mx, lx, cx, rfl, i1⟩ := h.cells
  obtain ⟨sy, my, ly, cy, rfl, i2⟩ : ∃ s9 m9 l9 c9, u = .agg #[.bool s9, .slice m9 l9 c9] ∧ RInt w (.agg #[.bool s9, .slice m9 l9 c9]) z := by obtain ⟨b, j, a, c, rfl, hx⟩ := k; exact ⟨b, a, _, c, rfl, b, j, a, c, rfl, hx⟩
  have PX := hide ((Box.new w (.bool sx) (.slice mx lx cx)).step (below_alloc _ (.cells #[.bool sy, .slice my ly cy] 39)))
  have PY := hide (Box2.new (w.alloc (.cells #[.bool sx, .slice mx lx cx] 36)) 39 (.bool sy) (.slice my ly cy))
  simp only [World.size_alloc] at PY
  have HB := hide ((below_alloc w (.cells #[.bool sx, .slice mx lx cx] 36)).trans ((below_alloc _ (.cells #[.bool sy, .slice my ly cy] 39)).mono (by simp only [World.size_alloc]; omega)))
  have IX := hide (i1.below HB.out)
  have IY := hide (i2.below HB.out)
  clear h k i1 i2 hl
  go_enter Try.func23, Try.ntmps23
  go_wp2_with fail
  generalize (w.alloc (.cells #[.bool sx, .slice mx lx cx] 36)).alloc (.cells #[.bool sy, .slice my ly cy] 39) = w0 at *
  refine (ilimbs_any _ z _ IX.out HL.out).mono ?_
  rintro e w1 ⟨l, rfl, nl, hb⟩
  replace HB := hide (HB.out.trans (hb.mono HB.out.size))
  replace PX := hide (PX.out.step hb)
  replace PY := hide (PY.out.step hb)
  replace IX := hide (IX.out.below hb)
  replace IY := hide (IY.out.below hb)
  have NL := hide nl
  clear hb nl
  go_wp2_with fail
  refine wp_calm (fun w' => Below w.heap.size w w' ∧ Box w' w.heap.size (.bool sx) (.slice mx lx cx) ∧ Box2 w' (w.heap.size + 1) 39 (.bool sy) (.slice my ly cy) ∧ IntAt w' (.agg #[.bool sx, .slice mx lx cx]) z ∧ RInt w' (.agg #[.bool sy, .slice my ly cy]) z ∧ Nums w' l (lim z.natAbs)) (fun _ => true) 13 #[false, false, false, false, false, false, false, false, false, false, false, false, false] (by kernel_rfl) rfl rfl ?_
  have HF := hide (And.intro (HB.out.drew) (And.intro (PX.out.drew) (And.intro (PY.out.drew) (And.intro (IX.out.drew) (And.intro (IY.out.drew) (NL.out.drew))))))
  generalize w1.drew = w1d at *
  refine Calm.take (i := 0) (v := ?_) (a' := ?_) (l' := #[true, false, false, false, false, false, false, false, false, false, false, false, false]) (d := some 12) rfl (by kernel_rfl) (by kernel_rfl) (by kernel_rfl) (by kernel_rfl) (fun _ _ _ h => h) HF.out rfl ?_ rfl rfl ?_ ?_
  rotate_left
  · intro w' hF; clear hF; go_simp; try rfl
  rotate_left
  · simp only [Act.put]; exact rfl
  refine Calm.take (i := 1) (v := ?_) (a' := ?_) (l' := #[true, true, false, false, false, false, false, false, false, false, false, false, false]) (d := some 13) rfl (by kernel_rfl) (by kernel_rfl) (by kernel_rfl) (by kernel_rfl) (fun _ _ _ h => h) HF.out rfl ?_ rfl rfl ?_ ?_
  rotate_left
  · intro w' hF; clear hF; go_simp; try rfl
  rotate_left
  · simp only [Act.put]; exact rfl
  refine Calm.take (i := 3) (v := ?_) (a' := ?_) (l' := #[true, true, false, true, false, false, false, false, false, false, false, false, false]) (d := some 15) rfl (by kernel_rfl) (by kernel_rfl) (by kernel_rfl) (by kernel_rfl) (fun _ _ _ h => h) HF.out rfl ?_ rfl rfl ?_ ?_
  rotate_left
  · intro w' hF; have f10 := hF.2.1.cell0; have f11 := hF.2.1.cell1; have f20 := hF.2.2.1.cell0; have f21 := hF.2.2.1.cell1; clear hF; go_simp; try rfl
  rotate_left
  · simp only [Act.put]; exact rfl
  refine Calm.one (i := 2) (l' := #[true, true, true, true, false, false, false, false, false, false, false, false, false]) (by kernel_rfl) rfl rfl rfl fun K hK => ?_
  go_simp
  refine (rmake_any _ _ _ _ HF.out.2.2.2.2.2 HL.out).mono ?_
  rintro e u1 ⟨v, rfl, n, hb⟩
  rw [sg_dec4] at n
  have HF' := hide (And.intro (HF.out.1.trans ((hb).mono HF.out.1.size)) (And.intro (HF.out.2.1.step (hb)) (And.intro (HF.out.2.2.1.step (hb)) (And.intro (HF.out.2.2.2.1.below (hb)) (And.intro (HF.out.2.2.2.2.1.below (hb)) (HF.out.2.2.2.2.2.below (hb)))))))
  have TM := hide (n)
  refine hK _ _ (fun _ => HF'.out) ?_
  clear hK K HF hb n
  have HF := hide HF'.out
  clear HF'
  refine Calm.one (i := 4) (l' := #[true, true, true, true, true, false, false, false, false, false, false, false, false]) (by kernel_rfl) rfl rfl rfl fun K hK => ?_
  go_simp
  refine (rsame4_yes _ _ z _ TM.out HF.out.2.2.2.2.1).mono ?_
  rintro e u2 ⟨rfl, hb⟩
  clear TM
  have HF' := hide (And.intro (HF.out.1.trans ((hb).mono HF.out.1.size)) (And.intro (HF.out.2.1.step (hb)) (And.intro (HF.out.2.2.1.step (hb)) (And.intro (HF.out.2.2.2.1.below (hb)) (And.intro (HF.out.2.2.2.2.1.below (hb)) (HF.out.2.2.2.2.2.below (hb)))))))
  refine hK _ _ (fun _ => HF'.out) ?_
  clear hK K HF hb
  have HF := hide HF'.out
  clear HF'
  refine Calm.take (i := 5) (v := ?_) (a' := ?_) (l' := #[true, true, true, true, true, true, false, false, false, false, false, false, false]) (d := some 17) rfl (by kernel_rfl) (by kernel_rfl) (by kernel_rfl) (by kernel_rfl) (fun _ _ _ h => h) HF.out rfl ?_ rfl rfl ?_ ?_
  rotate_left
  · intro w' hF; clear hF; go_simp; try rfl
  rotate_left
  · simp only [Act.put]; exact rfl
  refine Calm.take (i := 6) (v := ?_) (a' := ?_) (l' := #[true, true, true, true, true, true, true, false, false, false, false, false, false]) (d := some 18) rfl (by kernel_rfl) (by kernel_rfl) (by kernel_rfl) (by kernel_rfl) (fun _ _ _ h => h) HF.out (by kernel_rfl) ?_ rfl rfl ?_ ?_
  rotate_left
  · intro w' hF; have f10 := hF.2.1.cell0; have f11 := hF.2.1.cell1; have f20 := hF.2.2.1.cell0; have f21 := hF.2.2.1.cell1; clear hF; go_simp; try rfl
  rotate_left
  · simp only [Act.put]; exact rfl
  refine Calm.take (i := 8) (v := ?_) (a' := ?_) (l' := #[true, true, true, true, true, true, true, false, true, false, false, false, false]) (d := some 20) rfl (by kernel_rfl) (by kernel_rfl) (by kernel_rfl) (by kernel_rfl) (fun _ _ _ h => h) HF.out (by kernel_rfl) ?_ rfl rfl ?_ ?_
  rotate_left
  · intro w' hF; have f10 := hF.2.1.cell0; have f11 := hF.2.1.cell1; have f20 := hF.2.2.1.cell0; have f21 := hF.2.2.1.cell1; clear hF; go_simp; try rfl
  rotate_left
  · simp only [Act.put]; exact rfl
  refine Calm.one (i := 7) (l' := #[true, true, true, true, true, true, true, true, true, false, false, false, false]) (by kernel_rfl) rfl (by kernel_rfl) rfl fun K hK => ?_
  go_simp
  refine (isign_any _ z _ HF.out.2.2.2.1).mono ?_
  rintro e u3 ⟨rfl, hb⟩
  have HF' := hide (And.intro (HF.out.1.trans ((hb).mono HF.out.1.size)) (And.intro (HF.out.2.1.step (hb)) (And.intro (HF.out.2.2.1.step (hb)) (And.intro (HF.out.2.2.2.1.below (hb)) (And.intro (HF.out.2.2.2.2.1.below (hb)) (HF.out.2.2.2.2.2.below (hb)))))))
  refine hK _ _ (fun _ => HF'.out) ?_
  clear hK K HF hb
  have HF := hide HF'.out
  clear HF'
  refine Calm.one (i := 9) (l' := #[true, true, true, true, true, true, true, true, true, true, false, false, false]) (by kernel_rfl) rfl (by kernel_rfl) rfl fun K hK => ?_
  go_simp
  refine (rsign_any _ z _ HF.out.2.2.2.2.1).mono ?_
  rintro e u4 ⟨rfl, hb⟩
  have HF' := hide (And.intro (HF.out.1.trans ((hb).mono HF.out.1.size)) (And.intro (HF.out.2.1.step (hb)) (And.intro (HF.out.2.2.1.step (hb)) (And.intro (HF.out.2.2.2.1.below (hb)) (And.intro (HF.out.2.2.2.2.1.below (hb)) (HF.out.2.2.2.2.2.below (hb)))))))
  refine hK _ _ (fun _ => HF'.out) ?_
  clear hK K HF hb
  have HF := hide HF'.out
  clear HF'
  refine Calm.take (i := 10) (v := ?_) (a' := ?_) (l' := #[true, true, true, true, true, true, true, true, true, true, true, false, false]) (d := some 22) rfl (by kernel_rfl) (by kernel_rfl) (by kernel_rfl) (by kernel_rfl) (fun _ _ _ h => h) HF.out (by kernel_rfl) ?_ rfl rfl ?_ ?_
  rotate_left
  · intro w' hF; clear hF; go_simp; try rfl
  rotate_left
  · simp only [Act.put]; exact rfl
  refine Calm.take (i := 11) (v := ?_) (a' := ?_) (l' := #[true, true, true, true, true, true, true, true, true, true, true, true, false]) (d := some 23) rfl (by kernel_rfl) (by kernel_rfl) (by kernel_rfl) (by kernel_rfl) (fun _ _ _ h => h) HF.out rfl ?_ rfl rfl ?_ ?_
  rotate_left
  · intro w' hF; clear hF; go_simp; try rfl
  rotate_left
  · simp only [Act.put]; exact rfl
  refine Calm.take (i := 12) (v := ?_) (a' := ?_) (l' := #[true, true, true, true, true, true, true, true, true, true, true, true, true]) (d := some 4) rfl (by kernel_rfl) (by kernel_rfl) (by kernel_rfl) (by kernel_rfl) (fun _ _ _ h => h) HF.out rfl ?_ rfl rfl ?_ ?_
  rotate_left
  · intro w' hF; clear hF; go_simp; try rfl
  rotate_left
  · simp only [Act.put]; exact rfl
  refine Calm.done (by kernel_rfl) ?_
  replace HB := hide HF.out.1
  clear HF
  go_wp2
  go_ret
  exact ⟨rfl, HB.out⟩

set_option maxRecDepth 100000 in
set_option maxHeartbeats 4000000 in
theorem isrow_yes (va vb : Value) (zs : List Int) (w : World) (h1 : Ints w va zs) (h2 : RInts w vb zs) (hz : ∀ i, (lim (zs.getD i 0).natAbs).length ≤ 1000000000) :
    Calls Try.prog 15 #[va, vb] w fun e w' => e = .returned (.bool true) ∧ Below w.heap.size w w' := by
  have H1 := hide h1
  have H2 := hide h2
  have LZ := hide hz
  obtain ⟨a, cap, rfl, hcap, hmx, _⟩ := h1
  obtain ⟨a', cap', rfl, hcap', hmx', _⟩ := h2
  unfold maxLen at hmx hmx'
  clear hz
  go_enter Try.func15, Try.ntmps15
  go_wp2
  go_loopw [5] (fun iv wr => ∃ k : Nat, k ≤ zs.length ∧ iv = .int .i64 k ∧ Below w.heap.size w wr) (fun iv _ => zs.length - (intOf iv).toNat)
  case atStart => exact ⟨0, Nat.zero_le _, rfl, Below.refl _ _⟩
  case round =>
    obtain ⟨k, hk, rfl, hbel⟩ := hrel
    have HB := hide hbel
    clear hbel
    by_cases hlt : k < zs.length
    · obtain ⟨b, off, rfl, s, m, l, c, k1, k2, k3⟩ := (H1.out.below HB.out).at hlt
      obtain ⟨b2, off2, rfl, s2, m2, l2, c2, q1, q2, q3⟩ := (H2.out.below HB.out).at hlt
      have K1 := hide k1
      have K2 := hide k2
      have Q1 := hide q1
      have Q2 := hide q2
      have I1 := hide k3
      have I2 := hide q3
      have LK := hide (LZ.out k)
      clear k1 k2 k3 q1 q2 q3
      generalize zs.getD k 0 = z at *
      go_wp2_with fail
      refine wp_calm (fun w' => Below w.heap.size w w' ∧ CellAt w' ⟨b, off + k * 2, none⟩ (.bool s) ∧ CellAt w' ⟨b, off + k * 2 + 1, none⟩ (.slice m l c) ∧ CellAt w' ⟨b2, off2 + k * 2, none⟩ (.bool s2) ∧ CellAt w' ⟨b2, off2 + k * 2 + 1, none⟩ (.slice m2 l2 c2) ∧ IntAt w' (.agg #[.bool s, .slice m l c]) z ∧ RInt w' (.agg #[.bool s2, .slice m2 l2 c2]) z) (fun _ => true) 10 #[false, false, false, false, false, false, false, false, false, false] (by kernel_rfl) rfl rfl ?_
      have HF := hide (And.intro (HB.out.drew) (And.intro (K1.out.drew) (And.intro (K2.out.drew) (And.intro (Q1.out.drew) (And.intro (Q2.out.drew) (And.intro (I1.out.drew) (I2.out.drew)))))))
      generalize wr.drew = wrd at *
      refine Calm.take (i := 0) (v := ?_) (a' := ?_) (l' := #[true, false, false, false, false, false, false, false, false, false]) (d := some 17) rfl (by kernel_rfl) (by kernel_rfl) (by kernel_rfl) (by kernel_rfl) (fun _ _ _ h => h) HF.out rfl ?_ rfl rfl ?_ ?_
      rotate_left
      · intro w' hF; clear hF; go_simp; try rfl
      rotate_left
      · simp only [Act.put]; exact rfl
      refine Calm.take (i := 1) (v := ?_) (a' := ?_) (l' := #[true, true, false, false, false, false, false, false, false, false]) (d := some 18) rfl (by kernel_rfl) (by kernel_rfl) (by kernel_rfl) (by kernel_rfl) (fun _ _ _ h => h) HF.out rfl ?_ rfl rfl ?_ ?_
      rotate_left
      · intro w' hF; clear hF; go_simp; try rfl
      rotate_left
      · simp only [Act.put]; exact rfl
      refine Calm.take (i := 2) (v := ?_) (a' := ?_) (l' := #[true, true, true, false, false, false, false, false, false, false]) (d := some 19) rfl (by kernel_rfl) (by kernel_rfl) (by kernel_rfl) (by kernel_rfl) (fun _ _ _ h => h) HF.out rfl ?_ rfl rfl ?_ ?_
      rotate_left
      · intro w' hF; clear hF; go_simp; try rfl
      rotate_left
      · simp only [Act.put]; exact rfl
      refine Calm.take (i := 3) (v := ?_) (a' := ?_) (l' := #[true, true, true, true, false, false, false, false, false, false]) (d := some 20) rfl (by kernel_rfl) (by kernel_rfl) (by kernel_rfl) (by kernel_rfl) (fun _ _ _ h => h) HF.out rfl ?_ rfl rfl ?_ ?_
      rotate_left
      · intro w' hF; have f10 := hF.2.1.out; have f20 := hF.2.2.1.out; have f30 := hF.2.2.2.1.out; have f40 := hF.2.2.2.2.1.out; clear hF; go_simp; try rfl
      rotate_left
      · simp only [Act.put]; exact rfl
      refine Calm.take (i := 4) (v := ?_) (a' := ?_) (l' := #[true, true, true, true, true, false, false, false, false, false]) (d := some 21) rfl (by kernel_rfl) (by kernel_rfl) (by kernel_rfl) (by kernel_rfl) (fun _ _ _ h => h) HF.out rfl ?_ rfl rfl ?_ ?_
      rotate_left
      · intro w' hF; clear hF; go_simp; try rfl
      rotate_left
      · simp only [Act.put]; exact rfl
      refine Calm.take (i := 5) (v := ?_) (a' := ?_) (l' := #[true, true, true, true, true, true, false, false, false, false]) (d := some 22) rfl (by kernel_rfl) (by kernel_rfl) (by kernel_rfl) (by kernel_rfl) (fun _ _ _ h => h) HF.out rfl ?_ rfl rfl ?_ ?_
      rotate_left
      · intro w' hF; clear hF; go_simp; try rfl
      rotate_left
      · simp only [Act.put]; exact rfl
      refine Calm.take (i := 6) (v := ?_) (a' := ?_) (l' := #[true, true, true, true, true, true, true, false, false, false]) (d := some 23) rfl (by kernel_rfl) (by kernel_rfl) (by kernel_rfl) (by kernel_rfl) (fun _ _ _ h => h) HF.out rfl ?_ rfl rfl ?_ ?_
      rotate_left
      · intro w' hF; clear hF; go_simp; try rfl
      rotate_left
      · simp only [Act.put]; exact rfl
      refine Calm.take (i := 7) (v := ?_) (a' := ?_) (l' := #[true, true, true, true, true, true, true, true, false, false]) (d := some 24) rfl (by kernel_rfl) (by kernel_rfl) (by kernel_rfl) (by kernel_rfl) (fun _ _ _ h => h) HF.out rfl ?_ rfl rfl ?_ ?_
      rotate_left
      · intro w' hF; have f10 := hF.2.1.out; have f20 := hF.2.2.1.out; have f30 := hF.2.2.2.1.out; have f40 := hF.2.2.2.2.1.out; clear hF; go_simp; try rfl
      rotate_left
      · simp only [Act.put]; exact rfl
      refine Calm.one (i := 8) (l' := #[true, true, true, true, true, true, true, true, true, false]) (by kernel_rfl) rfl rfl rfl fun K hK => ?_
      go_simp
      refine (one_yes _ _ z _ HF.out.2.2.2.2.2.1 HF.out.2.2.2.2.2.2 LK.out).mono ?_
      rintro e w1 ⟨rfl, hb⟩
      have HF' := hide (And.intro (HF.out.1.trans ((hb).mono HF.out.1.size)) (And.intro (HF.out.2.1.step (hb)) (And.intro (HF.out.2.2.1.step (hb)) (And.intro (HF.out.2.2.2.1.step (hb)) (And.intro (HF.out.2.2.2.2.1.step (hb)) (And.intro (HF.out.2.2.2.2.2.1.below (hb)) (HF.out.2.2.2.2.2.2.below (hb))))))))
      refine hK _ _ (fun _ => HF'.out) ?_
      clear hK K HF hb
      have HF := hide HF'.out
      clear HF'
      refine Calm.take (i := 9) (v := ?_) (a' := ?_) (l' := #[true, true, true, true, true, true, true, true, true, true]) (d := some 26) rfl (by kernel_rfl) (by kernel_rfl) (by kernel_rfl) (by kernel_rfl) (fun _ _ _ h => h) HF.out rfl ?_ rfl rfl ?_ ?_
      rotate_left
      · intro w' hF; clear hF; go_simp; try rfl
      rotate_left
      · simp only [Act.put]; exact rfl
      refine Calm.done (by kernel_rfl) ?_
      replace HB := hide HF.out.1
      clear HF K1 K2 Q1 Q2 I1 I2
      go_wp2
      go_roundw
      case rel => exact ⟨k + 1, by omega, by go_num, HB.out⟩
      case measure => simp [intOf]; omega
    · have e : k = zs.length := by omega
      subst e
      go_wp2
      go_ret
      exact ⟨rfl, HB.out⟩

/-- all but one block is as it was, and all limbs -/
structure KeptBut (b : Nat) (w w' : World) : Prop where
  size : w.heap.size ≤ w'.heap.size
  block : ∀ g, g < w.heap.size → g ≠ b → w'.heap[g]? = w.heap[g]?
  limbs : Spares w w'
  rest : w'.os = w.os ∧ w'.tape = w.tape ∧ w'.output = w.output
theorem rest_put {w w' : World} (h : w'.os = w.os ∧ w'.tape = w.tape ∧ w'.output = w.output) (a : Addr) (v : Value) : (w'.setCell a v).os = w.os ∧ (w'.setCell a v).tape = w.tape ∧ (w'.setCell a v).output = w.output := by
  have hb := (Below.refl 0 w').setCell (p := a) (Nat.zero_le _) v
  exact ⟨hb.os.trans h.1, hb.tape.trans h.2.1, hb.output.trans h.2.2⟩
theorem KeptBut.refl (b : Nat) (w : World) : KeptBut b w w := ⟨Nat.le_refl _, fun _ _ _ => rfl, Spares.refl _, rfl, rfl, rfl⟩
theorem KeptBut.below {b : Nat} {w w' w'' : World} (h : KeptBut b w w') (hb : Below w'.heap.size w' w'') : KeptBut b w w'' :=
  ⟨Nat.le_trans h.size hb.size, fun g hg hne => (hb.block g (Nat.lt_of_lt_of_le hg h.size)).trans (h.block g hg hne), h.limbs.trans (Spares.of hb), hb.os.trans h.rest.1, hb.tape.trans h.rest.2.1, hb.output.trans h.rest.2.2⟩
theorem KeptBut.put {b : Nat} {w w' : World} {zs : List Int} {i : Nat} (h : KeptBut b w w') (hr : IRow w' b zs) (hi : i < zs.length) (x y : Value) : KeptBut b w ((w'.setCell ⟨b, i * 2, none⟩ x).setCell ⟨b, i * 2 + 1, none⟩ y) :=
  ⟨by simpa using h.size, fun g hg hne => by rw [Below.heap_setCell _ _ _ _ hne, Below.heap_setCell _ _ _ _ hne]; exact h.block g hg hne, h.limbs.trans (hr.spares hi x y), rest_put (rest_put h.rest _ _) _ _⟩
theorem IRow.kept {b c : Nat} {w w' : World} {zs : List Int} (h : IRow w c zs) (hk : KeptBut b w w') (hne : c ≠ b) : IRow w' c zs := by
  have hb := hk.block c h.lt hne
  refine ⟨fun i hi => ?_, fun o => (World.frozen?_of_block hb).trans (h.free o), Nat.lt_of_lt_of_le h.lt hk.size⟩
  obtain ⟨s, m, n, c', h1, h2, h3⟩ := h.cells i hi
  exact ⟨s, m, n, c', (World.cell?_of_block hb).trans h1, (World.cell?_of_block hb).trans h2, h3.keep hk.limbs⟩

set_option maxRecDepth 100000 in
set_option maxHeartbeats 4000000 in
theorem own_yes (b : Nat) (ys : List Int) (va vb : Value) (zs : List Int) (W w : World) (hW : Below W.heap.size W w) (hb : W.heap.size ≤ b) (hr : IRow w b ys) (hl : ys.length ≤ 4000000000) (h1 : Ints W va zs) (h2 : RInts W vb zs) (hz : ∀ i, (lim (zs.getD i 0).natAbs).length ≤ 1000000000) :
    Calls Try.prog 18 #[.slice (some ⟨b, 0, none⟩) ys.length ys.length, va, vb] w fun e w' => e = .returned (.bool true) ∧ KeptBut b w w' ∧ Below W.heap.size W w' := by
  have H1 := hide h1
  have H2 := hide h2
  have LZ := hide hz
  have HW := hide hW
  have HR := hide hr
  have HBb := hide hb
  obtain ⟨a, cap, rfl, hcap, hmx, _⟩ := h1
  obtain ⟨a', cap', rfl, hcap', hmx', _⟩ := h2
  unfold maxLen at hmx hmx'
  clear hz hW hr hb
  generalize hyl : ys.length = n at *
  have HY := hide hyl
  clear hyl
  go_enter Try.func18, Try.ntmps18
  go_wp2
  go_loopw [7] (fun iv wr => ∃ k : Nat, k ≤ n ∧ iv = .int .i64 k ∧ KeptBut b w wr ∧ Below W.heap.size W wr ∧ ∃ us : List Int, us.length = n ∧ IRow wr b us) (fun iv _ => n - (intOf iv).toNat)
  case atStart => exact ⟨0, Nat.zero_le _, rfl, KeptBut.refl _ _, HW.out, ys, HY.out, HR.out⟩
  case round =>
    obtain ⟨k, hk, rfl, hkb, hbel, us, hus, hrow⟩ := hrel
    clear HW HR
    have HK := hide hkb
    have HW := hide hbel
    have HR := hide hrow
    have HU := hide hus
    clear hkb hbel hrow hus
    by_cases hlt : k < n
    · go_wp2_with fail
      refine (iof_any 987654321 _ (by decide) (by decide)).mono ?_
      rintro e w1 ⟨v, rfl, n1, hb⟩
      obtain ⟨s, m, l, c, rfl, n1⟩ := n1.cells
      replace HK := hide (HK.out.below hb)
      replace HW := hide (HW.out.trans (hb.mono HW.out.size))
      replace HR := hide (HR.out.step hb)
      have IV := hide n1
      clear hb n1
      obtain ⟨s0, m0, n0, c0, g1, g2, g3⟩ := HR.out.cells k (by rw [HU.out]; exact hlt)
      have f1 := HR.out.free (k * 2)
      have f2 := HR.out.free (k * 2 + 1)
      clear g3
      go_wp2
      go_roundw
      case rel => exact ⟨k + 1, by omega, by go_num, HK.out.put HR.out (by rw [HU.out]; exact hlt) _ _, below_two HW.out HBb.out _ _, us.set k 987654321, by rw [List.length_set]; exact HU.out, HR.out.put (by rw [HU.out]; exact hlt) IV.out⟩
      case measure => simp [intOf]; omega
    · have e : k = n := by omega
      subst e
      go_wp2_with fail
      refine (isrow_yes _ _ zs _ (H1.out.below HW.out) (H2.out.below HW.out) LZ.out).mono ?_
      rintro e w1 ⟨rfl, hb⟩
      replace HK := hide (HK.out.below hb)
      replace HW := hide (HW.out.trans (hb.mono HW.out.size))
      clear hb
      go_wp2
      go_ret
      exact ⟨rfl, HK.out, HW.out⟩
end Go.Proofs.Ytngdnekbajnomaa
