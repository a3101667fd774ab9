/- swagelaw12.one: a number of the program that is that of the document. -/
import Derived.Test.YtapodkjmhenceaaPtRPow
namespace Go.Proofs.Ytapodkjmhenceaa
open Go.RowKit

set_option maxRecDepth 100000 in
set_option maxHeartbeats 4000000 in
theorem one12_yes (v u : Value) (z : Int) (w : World) (h : IntAt w v z) (k : RInt w u z) (hl : (lim z.natAbs).length ≤ 1000000000) :
    Calls Try.prog 34 #[v, u] w fun e w' => e = .returned (.bool true) ∧ Below w.heap.size w w' := by
  have HL := hide hl
  obtain ⟨sx, mx, lx, cx, rfl, i1⟩ := h.cells
  obtain ⟨sy, my, ly, cy, rfl, i2⟩ : ∃ s9 m9 l9 c9, u = .agg #[.bool s9, .slice m9 l9 c9] ∧ RInt w (.agg #[.bool s9, .slice m9 l9 c9]) z := by obtain ⟨b, j, a, c, rfl, hx⟩ := k; exact ⟨b, a, _, c, rfl, b, j, a, c, rfl, hx⟩
  have PX := hide ((Box.new w (.bool sx) (.slice mx lx cx)).step (below_alloc _ (.cells #[.bool sy, .slice my ly cy] 35)))
  have PY := hide (Box2.new (w.alloc (.cells #[.bool sx, .slice mx lx cx] 31)) 35 (.bool sy) (.slice my ly cy))
  simp only [World.size_alloc] at PY
  have HB := hide ((below_alloc w (.cells #[.bool sx, .slice mx lx cx] 31)).trans ((below_alloc _ (.cells #[.bool sy, .slice my ly cy] 35)).mono (by simp only [World.size_alloc]; omega)))
  have IX := hide (i1.below HB.out)
  have IY := hide (i2.below HB.out)
  clear h k i1 i2 hl
  go_enter Try.func34, Try.ntmps34
  go_wp2_with fail
  generalize (w.alloc (.cells #[.bool sx, .slice mx lx cx] 31)).alloc (.cells #[.bool sy, .slice my ly cy] 35) = w0 at *
  refine (ilimbs_any _ z _ IX.out HL.out).mono ?_
  rintro e w1 ⟨l, rfl, nl, hb⟩
  replace HB := hide (HB.out.trans (hb.mono HB.out.size))
  replace PX := hide (PX.out.step hb)
  replace PY := hide (PY.out.step hb)
  replace IX := hide (IX.out.below hb)
  replace IY := hide (IY.out.below hb)
  have NL := hide nl
  clear hb nl
  go_wp2_with fail
  refine wp_calm (fun w' => Below w.heap.size w w' ∧ Box w' w.heap.size (.bool sx) (.slice mx lx cx) ∧ Box2 w' (w.heap.size + 1) 35 (.bool sy) (.slice my ly cy) ∧ IntAt w' (.agg #[.bool sx, .slice mx lx cx]) z ∧ RInt w' (.agg #[.bool sy, .slice my ly cy]) z ∧ Nums w' l (lim z.natAbs)) (fun _ => true) 6 #[false, false, false, false, false, false] (by kernel_rfl) rfl rfl ?_
  have HF := hide (And.intro (HB.out.drew) (And.intro (PX.out.drew) (And.intro (PY.out.drew) (And.intro (IX.out.drew) (And.intro (IY.out.drew) (NL.out.drew))))))
  generalize w1.drew = w1d at *
  refine Calm.take (i := 0) (v := ?_) (a' := ?_) (l' := #[true, false, false, false, false, false]) (d := some 12) rfl (by kernel_rfl) (by kernel_rfl) (by kernel_rfl) (by kernel_rfl) (fun _ _ _ h => h) HF.out rfl ?_ rfl rfl ?_ ?_
  rotate_left
  · intro w' hF; clear hF; go_simp; try rfl
  rotate_left
  · simp only [Act.put]; exact rfl
  refine Calm.take (i := 1) (v := ?_) (a' := ?_) (l' := #[true, true, false, false, false, false]) (d := some 13) rfl (by kernel_rfl) (by kernel_rfl) (by kernel_rfl) (by kernel_rfl) (fun _ _ _ h => h) HF.out rfl ?_ rfl rfl ?_ ?_
  rotate_left
  · intro w' hF; clear hF; go_simp; try rfl
  rotate_left
  · simp only [Act.put]; exact rfl
  refine Calm.take (i := 3) (v := ?_) (a' := ?_) (l' := #[true, true, false, true, false, false]) (d := some 15) rfl (by kernel_rfl) (by kernel_rfl) (by kernel_rfl) (by kernel_rfl) (fun _ _ _ h => h) HF.out rfl ?_ rfl rfl ?_ ?_
  rotate_left
  · intro w' hF; have f10 := hF.2.1.cell0; have f11 := hF.2.1.cell1; have f20 := hF.2.2.1.cell0; have f21 := hF.2.2.1.cell1; clear hF; go_simp; try rfl
  rotate_left
  · simp only [Act.put]; exact rfl
  refine Calm.one (i := 2) (l' := #[true, true, true, true, false, false]) (by kernel_rfl) rfl rfl rfl fun K hK => ?_
  go_simp
  refine (rmake_any _ _ _ _ HF.out.2.2.2.2.2 HL.out).mono ?_
  rintro e u1 ⟨v, rfl, n, hb⟩
  rw [sg_dec6] at n
  have HF' := hide (And.intro (HF.out.1.trans ((hb).mono HF.out.1.size)) (And.intro (HF.out.2.1.step (hb)) (And.intro (HF.out.2.2.1.step (hb)) (And.intro (HF.out.2.2.2.1.below (hb)) (And.intro (HF.out.2.2.2.2.1.below (hb)) (HF.out.2.2.2.2.2.below (hb)))))))
  have TM := hide (n)
  refine hK _ _ (fun _ => HF'.out) ?_
  clear hK K HF hb n
  have HF := hide HF'.out
  clear HF'
  refine Calm.one (i := 4) (l' := #[true, true, true, true, true, false]) (by kernel_rfl) rfl rfl rfl fun K hK => ?_
  go_simp
  refine (rsame6_yes _ _ z _ TM.out HF.out.2.2.2.2.1).mono ?_
  rintro e u2 ⟨rfl, hb⟩
  clear TM
  have HF' := hide (And.intro (HF.out.1.trans ((hb).mono HF.out.1.size)) (And.intro (HF.out.2.1.step (hb)) (And.intro (HF.out.2.2.1.step (hb)) (And.intro (HF.out.2.2.2.1.below (hb)) (And.intro (HF.out.2.2.2.2.1.below (hb)) (HF.out.2.2.2.2.2.below (hb)))))))
  refine hK _ _ (fun _ => HF'.out) ?_
  clear hK K HF hb
  have HF := hide HF'.out
  clear HF'
  refine Calm.take (i := 5) (v := ?_) (a' := ?_) (l' := #[true, true, true, true, true, true]) (d := some 4) rfl (by kernel_rfl) (by kernel_rfl) (by kernel_rfl) (by kernel_rfl) (fun _ _ _ h => h) HF.out rfl ?_ rfl rfl ?_ ?_
  rotate_left
  · intro w' hF; clear hF; go_simp; try rfl
  rotate_left
  · simp only [Act.put]; exact rfl
  refine Calm.done (by kernel_rfl) ?_
  replace HB := hide HF.out.1
  clear HF
  go_wp2
  go_ret
  exact ⟨rfl, HB.out⟩
end Go.Proofs.Ytapodkjmhenceaa
