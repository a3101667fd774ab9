/- swagelaw02.of: a number, as the program and as the document's answers have it; swageref02.Of. -/
import Derived.Test.YtnldhpleicpjfaaR2Cmp
namespace Go.Proofs.Ytnldhpleicpjfaa
open Go.RowKit

theorem ret_both {fn : Func} {R : Ending → World → Prop} {a : Act} {w : World} {p q : Tmp} (h : fn.results = #[.cell p 28, .cell q 30]) (g g' : Nat) (x y x' y' : Value)
    (hp : a.tmps.getD p undef = .pointer (some ⟨g, 0, none⟩)) (hq : a.tmps.getD q undef = .pointer (some ⟨g', 0, none⟩)) (hg : Box w g x y) (hg' : Box2 w g' 30 x' y') (hd : a.defers = []) (hR : R (.returned (.tuple #[.agg #[x, y], .agg #[x', y']])) w) : bodyPost Try.prog fn R .ret a w := by
  refine bodyPost_ret ?_ hd hR
  have hp' : a.tmps[p]?.getD undef = .pointer (some ⟨g, 0, none⟩) := by simpa using hp
  have hq' : a.tmps[q]?.getD undef = .pointer (some ⟨g', 0, none⟩) := by simpa using hq
  simp [results, h, hp', hq', asAddr, run_loadVar_row w g 28 28 #[x, y] (0, 0) _ hg Try.underlying28 rfl Try.infoInt, run_loadVar_row w g' 30 30 #[x', y'] (0, 0) _ hg' Try.underlying30 rfl Try.infoRef]

set_option maxRecDepth 100000 in
set_option maxHeartbeats 2000000 in
theorem of_any (s : Bool) (a : Option Addr) (c : Nat) (xs : List Nat) (w : World) (h : Nums w (.slice a xs.length c) xs) (hl : xs.length ≤ 1000000000) :
    Calls Try.prog 7 #[.agg #[.bool s, .slice a xs.length c]] w fun e w' => ∃ v u, e = .returned (.tuple #[v, u]) ∧ IntAt w' v (sg s (val xs)) ∧ RInt w' u (sg s (val xs)) ∧ Below w.heap.size w w' := by
  have HP : Hid (Box2 (((w.alloc (.cells #[.bool s, .slice a xs.length c] 24)).alloc (.cells #[.bool false, .slice none 0 0] 28)).alloc (.cells #[.bool false, .slice none 0 0] 30)) w.heap.size 24 (.bool s) (.slice a xs.length c)) := hide (((Box2.new w _ _ _).step (below_alloc _ _)).step (below_alloc _ _))
  have HQ : Hid (Box (((w.alloc (.cells #[.bool s, .slice a xs.length c] 24)).alloc (.cells #[.bool false, .slice none 0 0] 28)).alloc (.cells #[.bool false, .slice none 0 0] 30)) (w.heap.size + 1) (.bool false) (.slice none 0 0)) := hide (by
    have := Box.new (w.alloc (.cells #[.bool s, .slice a xs.length c] 24)) (.bool false) (.slice none 0 0)
    rw [World.size_alloc] at this
    exact this.step (below_alloc _ _))
  have HR : Hid (Box2 (((w.alloc (.cells #[.bool s, .slice a xs.length c] 24)).alloc (.cells #[.bool false, .slice none 0 0] 28)).alloc (.cells #[.bool false, .slice none 0 0] 30)) (w.heap.size + 1 + 1) 30 (.bool false) (.slice none 0 0)) := hide (by
    have := Box2.new ((w.alloc (.cells #[.bool s, .slice a xs.length c] 24)).alloc (.cells #[.bool false, .slice none 0 0] 28)) 30 (.bool false) (.slice none 0 0)
    rwa [World.size_alloc, World.size_alloc] at this)
  have HB : Hid (Below w.heap.size w (((w.alloc (.cells #[.bool s, .slice a xs.length c] 24)).alloc (.cells #[.bool false, .slice none 0 0] 28)).alloc (.cells #[.bool false, .slice none 0 0] 30))) := hide ((below_alloc _ _).trans (((below_alloc _ _).trans ((below_alloc _ _).mono (by simp))).mono (by simp)))
  have HN := hide (h.below HB.out)
  clear h
  go_enter Try.func7, Try.ntmps7
  go_wp2_with fail
  refine wp_calm (fun w' => Box2 w' w.heap.size 24 (.bool s) (.slice a xs.length c)) (fun _ => true) 12 #[false, false, false, false, false, false, false, false, false, false, false, false] (by kernel_rfl) rfl rfl ?_
  have HF := hide HP.out.drew
  refine Calm.take (i := 0) (v := ?_) (a' := ?_) (l' := #[true, false, false, false, false, false, false, false, false, false, false, false]) (d := some 4) rfl (by kernel_rfl) (by kernel_rfl) (by kernel_rfl) (by kernel_rfl) (fun _ _ _ h => h) HF.out rfl ?_ rfl rfl ?_ ?_
  rotate_left
  · intro w' hF; have f0 := hF.cell0; have f1 := hF.cell1; clear hF; go_simp; try rfl
  rotate_left
  · simp only [Act.put]; exact rfl
  refine Calm.take (i := 1) (v := ?_) (a' := ?_) (l' := #[true, true, false, false, false, false, false, false, false, false, false, false]) (d := some 5) rfl (by kernel_rfl) (by kernel_rfl) (by kernel_rfl) (by kernel_rfl) (fun _ _ _ h => h) HF.out rfl ?_ rfl rfl ?_ ?_
  rotate_left
  · intro w' hF; have f0 := hF.cell0; have f1 := hF.cell1; clear hF; go_simp; try rfl
  rotate_left
  · simp only [Act.put]; exact rfl
  refine Calm.take (i := 2) (v := ?_) (a' := ?_) (l' := #[true, true, true, false, false, false, false, false, false, false, false, false]) (d := some 6) rfl (by kernel_rfl) (by kernel_rfl) (by kernel_rfl) (by kernel_rfl) (fun _ _ _ h => h) HF.out rfl ?_ rfl rfl ?_ ?_
  rotate_left
  · intro w' hF; have f0 := hF.cell0; have f1 := hF.cell1; clear hF; go_simp; try rfl
  rotate_left
  · simp only [Act.put]; exact rfl
  refine Calm.take (i := 3) (v := ?_) (a' := ?_) (l' := #[true, true, true, true, false, false, false, false, false, false, false, false]) (d := some 7) rfl (by kernel_rfl) (by kernel_rfl) (by kernel_rfl) (by kernel_rfl) (fun _ _ _ h => h) HF.out rfl ?_ rfl rfl ?_ ?_
  rotate_left
  · intro w' hF; have f0 := hF.cell0; have f1 := hF.cell1; clear hF; go_simp; try rfl
  rotate_left
  · simp only [Act.put]; exact rfl
  refine Calm.take (i := 5) (v := ?_) (a' := ?_) (l' := #[true, true, true, true, false, true, false, false, false, false, false, false]) (d := some 9) rfl (by kernel_rfl) (by kernel_rfl) (by kernel_rfl) (by kernel_rfl) (fun _ _ _ h => h) HF.out rfl ?_ rfl rfl ?_ ?_
  rotate_left
  · intro w' hF; have f0 := hF.cell0; have f1 := hF.cell1; clear hF; go_simp; try rfl
  rotate_left
  · simp only [Act.put]; exact rfl
  refine Calm.take (i := 6) (v := ?_) (a' := ?_) (l' := #[true, true, true, true, false, true, true, false, false, false, false, false]) (d := some 10) rfl (by kernel_rfl) (by kernel_rfl) (by kernel_rfl) (by kernel_rfl) (fun _ _ _ h => h) HF.out rfl ?_ rfl rfl ?_ ?_
  rotate_left
  · intro w' hF; have f0 := hF.cell0; have f1 := hF.cell1; clear hF; go_simp; try rfl
  rotate_left
  · simp only [Act.put]; exact rfl
  refine Calm.take (i := 7) (v := ?_) (a' := ?_) (l' := #[true, true, true, true, false, true, true, true, false, false, false, false]) (d := some 11) rfl (by kernel_rfl) (by kernel_rfl) (by kernel_rfl) (by kernel_rfl) (fun _ _ _ h => h) HF.out rfl ?_ rfl rfl ?_ ?_
  rotate_left
  · intro w' hF; have f0 := hF.cell0; have f1 := hF.cell1; clear hF; go_simp; try rfl
  rotate_left
  · simp only [Act.put]; exact rfl
  refine Calm.take (i := 8) (v := ?_) (a' := ?_) (l' := #[true, true, true, true, false, true, true, true, true, false, false, false]) (d := some 12) rfl (by kernel_rfl) (by kernel_rfl) (by kernel_rfl) (by kernel_rfl) (fun _ _ _ h => h) HF.out rfl ?_ rfl rfl ?_ ?_
  rotate_left
  · intro w' hF; have f0 := hF.cell0; have f1 := hF.cell1; clear hF; go_simp; try rfl
  rotate_left
  · simp only [Act.put]; exact rfl
  refine Calm.one (i := 4) (l' := #[true, true, true, true, true, true, true, true, true, false, false, false]) (by kernel_rfl) rfl rfl rfl fun K hK => ?_
  go_simp
  refine (make_any s _ xs _ HN.out.drew hl).mono ?_
  rintro e u0 ⟨v, rfl, ⟨b1, n1, a1, c1, rfl, k1, e1, z1⟩, hb⟩
  have I1 : Hid (IntAt u0 (.agg #[.bool b1, .slice a1 (lim n1).length c1]) (sg s (val xs))) := ⟨b1, n1, a1, c1, rfl, k1, e1, z1⟩
  clear k1 e1 z1
  replace HF := hide (HF.out.step hb)
  replace HQ := hide (HQ.out.drew.step hb)
  replace HR := hide (HR.out.drew.step hb)
  replace HB := hide (HB.out.drew.trans (hb.mono HB.out.size))
  replace HN := hide (HN.out.drew.below hb)
  clear hb
  refine hK _ _ (fun _ => HF.out) ?_
  clear hK K
  refine Calm.one (i := 9) (l' := #[true, true, true, true, true, true, true, true, true, true, false, false]) (by kernel_rfl) rfl rfl rfl fun K hK => ?_
  go_simp
  refine (rmake_any s _ xs _ HN.out hl).mono ?_
  rintro e u1 ⟨v, rfl, ⟨b2, n2, a2, c2, rfl, k2, e2, z2⟩, hb⟩
  have I2 : Hid (RInt u1 (.agg #[.bool b2, .slice a2 (D.lim n2).length c2]) (sg s (val xs))) := ⟨b2, n2, a2, c2, rfl, k2, e2, z2⟩
  clear k2 e2 z2
  replace HF := hide (HF.out.step hb)
  replace HQ := hide (HQ.out.step hb)
  replace HR := hide (HR.out.step hb)
  replace HB := hide (HB.out.trans (hb.mono HB.out.size))
  replace I1 := hide (I1.out.below hb)
  clear hb
  refine hK _ _ (fun _ => HF.out) ?_
  clear hK K
  have hc0 := HQ.out.cell0
  have hc1 := HQ.out.cell1
  have hf0 := HQ.out.free 0
  have hf1 := HQ.out.free 1
  have hd0 := HR.out.cell0
  have hd1 := HR.out.cell1
  have hg0 := HR.out.free 0
  have hg1 := HR.out.free 1
  refine Calm.one (i := 10) (l' := #[true, true, true, true, true, true, true, true, true, true, true, false]) (by kernel_rfl) rfl rfl rfl fun K hK => ?_
  go_simp
  replace HF := hide ((HF.out.set_ne (C := w.heap.size + 1) (o := 0) (by omega) (.bool b1)).set_ne (C := w.heap.size + 1) (o := 1) (by omega) (.slice a1 (lim n1).length c1))
  refine hK _ _ (fun _ => HF.out) ?_
  clear hK K
  refine Calm.one (i := 11) (l' := #[true, true, true, true, true, true, true, true, true, true, true, true]) (by kernel_rfl) rfl rfl rfl fun K hK => ?_
  go_simp
  replace HF := hide ((HF.out.set_ne (C := w.heap.size + 1 + 1) (o := 0) (by omega) (.bool b2)).set_ne (C := w.heap.size + 1 + 1) (o := 1) (by omega) (.slice a2 (D.lim n2).length c2))
  refine hK _ _ (fun _ => HF.out) ?_
  clear hK K
  refine Calm.done (by kernel_rfl) ?_
  go_wp2
  have HQ' := hide ((HQ.out.set0 (.bool b1)).set1 (.slice a1 (lim n1).length c1))
  have HK1 := hide (HQ.out.keeps (by simp) (by simp) (.bool b1) (.slice a1 (lim n1).length c1))
  have HR' := hide ((HR.out.set_ne (C := w.heap.size + 1) (o := 0) (by omega) (.bool b1)).set_ne (C := w.heap.size + 1) (o := 1) (by omega) (.slice a1 (lim n1).length c1))
  have HK2 := hide (keeps2 HR'.out (by simp) (by simp) (.bool b2) (.slice a2 (D.lim n2).length c2))
  refine ret_both rfl (w.heap.size + 1) (w.heap.size + 1 + 1) _ _ _ _ rfl rfl ((HQ'.out.set_ne (by omega) _).set_ne (by omega) _) ((HR'.out.set0 _).set1 _) rfl ?_
  exact ⟨_, _, rfl, I1.out.keep (HK1.out.trans HK2.out), I2.out.keep (HK1.out.trans HK2.out), (((HB.out.setCell (p := ⟨w.heap.size + 1, 0, none⟩) (by simp) _).setCell (p := ⟨w.heap.size + 1, 1, none⟩) (by simp) _).setCell (p := ⟨w.heap.size + 1 + 1, 0, none⟩) (by simp; omega) _).setCell (p := ⟨w.heap.size + 1 + 1, 1, none⟩) (by simp; omega) _⟩
end Go.Proofs.Ytnldhpleicpjfaa
