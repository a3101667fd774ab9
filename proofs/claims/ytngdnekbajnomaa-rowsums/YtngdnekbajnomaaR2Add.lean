/- The document's answers for layer 2 (swageref02): Add, Sub. -/
import Derived.Test.YtngdnekbajnomaaR2Plus
namespace Go.Proofs.Ytngdnekbajnomaa
open Go.RowKit

/-- a number of the document's handed on: what stands behind it in the end -/
theorem rhanded {w w' : World} {g : Nat} {x y : Value} {z : Int} {b : Bool} {n : Nat} {a : Option Addr} {c : Nat} (hX : Box2 w' g 39 x y) (hx : ∀ z, x ≠ .int .u32 z) (hy : ∀ z, y ≠ .int .u32 z) (hg : w.heap.size ≤ g) (hB : Below w.heap.size w w')
    (hn : Nums w' (.slice a (D.lim n).length c) (D.lim n)) (he : z = sg b n) (h0 : n = 0 → b = false) :
    ∃ v, Ending.returned (.agg #[.bool b, .slice a (D.lim n).length c]) = .returned v ∧ RInt ((w'.setCell ⟨g, 0, none⟩ (.bool b)).setCell ⟨g, 1, none⟩ (.slice a (D.lim n).length c)) v z ∧ Below w.heap.size w ((w'.setCell ⟨g, 0, none⟩ (.bool b)).setCell ⟨g, 1, none⟩ (.slice a (D.lim n).length c)) :=
  ⟨_, rfl, ⟨b, n, a, c, rfl, keeps2 hX hx hy _ _ _ _ hn, he, h0⟩, (hB.setCell (p := ⟨g, 0, none⟩) hg _).setCell (p := ⟨g, 1, none⟩) hg _⟩

theorem dlen_le {m n : Nat} (h : m ≤ n) : (D.lim m).length ≤ (D.lim n).length := by
  have := D.val_lt (D.ok_lim n)
  rw [D.val_lim] at this
  exact D.lim_length_le (Nat.lt_of_le_of_lt h this)

set_option maxRecDepth 100000 in
set_option maxHeartbeats 4000000 in
theorem radd2_any (v1 v2 : Value) (x y : Int) (w : World) (h1 : RInt w v1 x) (h2 : RInt w v2 y) (l1 : (D.lim x.natAbs).length ≤ 100000000) (l2 : (D.lim y.natAbs).length ≤ 100000000) :
    Calls Try.prog 41 #[v1, v2] w fun e w' => ∃ v', e = .returned v' ∧ RInt w' v' (x + y) ∧ Below w.heap.size w w' := by
  obtain ⟨b1, n1, a1, c1, rfl, hn1, rfl, h01⟩ := h1
  obtain ⟨b2, n2, a2, c2, rfl, hn2, rfl, h02⟩ := h2
  have HE := hide (nboxes3 39 w (.bool b1) (.slice a1 (D.lim n1).length c1) (.bool b2) (.slice a2 (D.lim n2).length c2) (.bool false) (.slice none 0 0))
  have HN1 := hide (hn1.below HE.out.2.2.2)
  have HN2 := hide (hn2.below HE.out.2.2.2)
  rw [sg_abs] at l1 l2
  clear hn1 h01 hn2 h02
  by_cases hb : b1 = b2
  · subst hb
    go_enter Try.func41, Try.ntmps41
    go_wp2_with fail
    refine wp_calm (fun w' => Box2 w' w.heap.size 39 (.bool b1) (.slice a1 (D.lim n1).length c1) ∧ Box2 w' (w.heap.size + 1) 39 (.bool b1) (.slice a2 (D.lim n2).length c2)) (fun j => j != 8) 9 #[false, false, false, false, false, false, false, false, false] (by kernel_rfl) rfl rfl ?_
    have HF := hide (And.intro HE.out.1.drew HE.out.2.1.drew)
    refine Calm.take (i := 0) (v := ?_) (a' := ?_) (l' := #[true, false, false, false, false, false, false, false, false]) (d := some 10) rfl (by kernel_rfl) (by kernel_rfl) (by kernel_rfl) (by kernel_rfl) (fun _ _ _ h => h) HF.out rfl ?_ rfl rfl ?_ ?_
    rotate_left
    · intro w' hF; have f0 := hF.1.cell0; have f1 := hF.1.cell1; have f2 := hF.2.cell0; have f3 := hF.2.cell1; clear hF; go_simp; try rfl
    rotate_left
    · simp only [Act.put]; exact rfl
    refine Calm.take (i := 1) (v := ?_) (a' := ?_) (l' := #[true, true, false, false, false, false, false, false, false]) (d := some 11) rfl (by kernel_rfl) (by kernel_rfl) (by kernel_rfl) (by kernel_rfl) (fun _ _ _ h => h) HF.out rfl ?_ rfl rfl ?_ ?_
    rotate_left
    · intro w' hF; have f0 := hF.1.cell0; have f1 := hF.1.cell1; have f2 := hF.2.cell0; have f3 := hF.2.cell1; clear hF; go_simp; try rfl
    rotate_left
    · simp only [Act.put]; exact rfl
    refine Calm.take (i := 2) (v := ?_) (a' := ?_) (l' := #[true, true, true, false, false, false, false, false, false]) (d := some 12) rfl (by kernel_rfl) (by kernel_rfl) (by kernel_rfl) (by kernel_rfl) (fun _ _ _ h => h) HF.out rfl ?_ rfl rfl ?_ ?_
    rotate_left
    · intro w' hF; have f0 := hF.1.cell0; have f1 := hF.1.cell1; have f2 := hF.2.cell0; have f3 := hF.2.cell1; clear hF; go_simp; try rfl
    rotate_left
    · simp only [Act.put]; exact rfl
    refine Calm.take (i := 3) (v := ?_) (a' := ?_) (l' := #[true, true, true, true, false, false, false, false, false]) (d := some 13) rfl (by kernel_rfl) (by kernel_rfl) (by kernel_rfl) (by kernel_rfl) (fun _ _ _ h => h) HF.out rfl ?_ rfl rfl ?_ ?_
    rotate_left
    · intro w' hF; have f0 := hF.1.cell0; have f1 := hF.1.cell1; have f2 := hF.2.cell0; have f3 := hF.2.cell1; clear hF; go_simp; try rfl
    rotate_left
    · simp only [Act.put]; exact rfl
    refine Calm.take (i := 4) (v := ?_) (a' := ?_) (l' := #[true, true, true, true, true, false, false, false, false]) (d := some 14) rfl (by kernel_rfl) (by kernel_rfl) (by kernel_rfl) (by kernel_rfl) (fun _ _ _ h => h) HF.out rfl ?_ rfl rfl ?_ ?_
    rotate_left
    · intro w' hF; have f0 := hF.1.cell0; have f1 := hF.1.cell1; have f2 := hF.2.cell0; have f3 := hF.2.cell1; clear hF; go_simp; try rfl
    rotate_left
    · simp only [Act.put]; exact rfl
    refine Calm.take (i := 5) (v := ?_) (a' := ?_) (l' := #[true, true, true, true, true, true, false, false, false]) (d := some 15) rfl (by kernel_rfl) (by kernel_rfl) (by kernel_rfl) (by kernel_rfl) (fun _ _ _ h => h) HF.out rfl ?_ rfl rfl ?_ ?_
    rotate_left
    · intro w' hF; have f0 := hF.1.cell0; have f1 := hF.1.cell1; have f2 := hF.2.cell0; have f3 := hF.2.cell1; clear hF; go_simp; try rfl
    rotate_left
    · simp only [Act.put]; exact rfl
    refine Calm.one (i := 6) (l' := #[true, true, true, true, true, true, true, false, false]) (by kernel_rfl) rfl rfl rfl fun K hK => ?_
    go_simp
    refine (rplus_any _ _ (D.lim n1) (D.lim n2) _ HN1.out.drew HN2.out.drew (D.ok_lim _) (D.ok_lim _) l1 l2).mono ?_
    rintro e w1 ⟨v1, acc, rfl, m1, mo, mv, hb1⟩
    rw [D.val_lim, D.val_lim] at mv
    have HM1 := hide (And.intro m1 (And.intro mo mv))
    clear m1 mo mv
    have HR := hide (HE.out.2.2.1.drew.step hb1)
    have HB1 := hide (HE.out.2.2.2.trans ((Below.refl _ _).drew.trans (hb1.mono HE.out.2.2.2.size)))
    have HF' := hide (And.intro (HF.out.1.step hb1) (HF.out.2.step hb1))
    refine hK _ _ (fun _ => HF'.out) ?_
    clear hK K HF
    have HF := hide HF'.out
    clear HF'
    refine Calm.one (i := 7) (l' := #[true, true, true, true, true, true, true, true, false]) (by kernel_rfl) rfl rfl rfl fun K hK => ?_
    go_simp
    refine (rnorm2_any b1 _ acc _ HM1.out.1 HM1.out.2.1).mono ?_
    rintro e w2 ⟨v, rfl, ⟨b', n', a', c', rfl, hn', he, h0⟩, hb2⟩
    rw [HM1.out.2.2] at he
    have HX := hide (HR.out.step hb2)
    have HB2 := hide (HB1.out.trans (hb2.mono HB1.out.size))
    have HF' := hide (And.intro (HF.out.1.step hb2) (HF.out.2.step hb2))
    refine hK _ _ (fun _ => HF'.out) ?_
    clear hK K HF
    have HF := hide HF'.out
    clear HF'
    refine Calm.one (i := 8) (l' := #[true, true, true, true, true, true, true, true, true]) (by kernel_rfl) rfl rfl rfl fun K hK => ?_
    have hc0 := HX.out.cell0
    have hc1 := HX.out.cell1
    have hf0 := HX.out.free 0
    have hf1 := HX.out.free 1
    go_simp
    refine hK _ _ (fun h => absurd h (by decide)) ?_
    clear hK K
    refine Calm.done (by kernel_rfl) ?_
    go_wp2
    refine ret_ref rfl (w.heap.size + 1 + 1) _ _ _ _ rfl ((HX.out.set0 _).set1 _) rfl ?_
    refine rhanded HX.out (by simp) (by simp) (by omega) HB2.out hn' ?_ h0
    rw [← he, sg_add]
  · have hb' : b2 = !b1 := by cases b1 <;> cases b2 <;> simp_all
    subst hb'
    clear hb
    by_cases hlt : n1 < n2
    · have HLT := hide hlt
      have hcz : ¬ (0 : Int) ≤ cmpI n1 n2 := by rw [cmpI_lt hlt]; decide
      clear hlt
      go_enter Try.func41, Try.ntmps41
      go_wp2_with fail
      refine (rsize_any _ _ n1 n2 _ HN1.out HN2.out).mono ?_
      rintro e wz ⟨rfl, hb⟩
      have HEz := hide (And.intro (HE.out.1.step hb) (And.intro (HE.out.2.1.step hb) (And.intro (HE.out.2.2.1.step hb) (HE.out.2.2.2.trans (hb.mono HE.out.2.2.2.size)))))
      replace HN1 := hide (HN1.out.below hb)
      replace HN2 := hide (HN2.out.below hb)
      clear hb HE
      have HE := hide HEz.out
      clear HEz
      go_wp2_with fail
      refine wp_calm (fun w' => Box2 w' w.heap.size 39 (.bool b1) (.slice a1 (D.lim n1).length c1) ∧ Box2 w' (w.heap.size + 1) 39 (.bool !b1) (.slice a2 (D.lim n2).length c2)) (fun j => j != 8) 9 #[false, false, false, false, false, false, false, false, false] (by kernel_rfl) rfl rfl ?_
      have HF := hide (And.intro HE.out.1.drew HE.out.2.1.drew)
      refine Calm.take (i := 0) (v := ?_) (a' := ?_) (l' := #[true, false, false, false, false, false, false, false, false]) (d := some 32) rfl (by kernel_rfl) (by kernel_rfl) (by kernel_rfl) (by kernel_rfl) (fun _ _ _ h => h) HF.out rfl ?_ rfl rfl ?_ ?_
      rotate_left
      · intro w' hF; have f0 := hF.1.cell0; have f1 := hF.1.cell1; have f2 := hF.2.cell0; have f3 := hF.2.cell1; clear hF; go_simp; try rfl
      rotate_left
      · simp only [Act.put]; exact rfl
      refine Calm.take (i := 1) (v := ?_) (a' := ?_) (l' := #[true, true, false, false, false, false, false, false, false]) (d := some 33) rfl (by kernel_rfl) (by kernel_rfl) (by kernel_rfl) (by kernel_rfl) (fun _ _ _ h => h) HF.out rfl ?_ rfl rfl ?_ ?_
      rotate_left
      · intro w' hF; have f0 := hF.1.cell0; have f1 := hF.1.cell1; have f2 := hF.2.cell0; have f3 := hF.2.cell1; clear hF; go_simp; try rfl
      rotate_left
      · simp only [Act.put]; exact rfl
      refine Calm.take (i := 2) (v := ?_) (a' := ?_) (l' := #[true, true, true, false, false, false, false, false, false]) (d := some 34) rfl (by kernel_rfl) (by kernel_rfl) (by kernel_rfl) (by kernel_rfl) (fun _ _ _ h => h) HF.out rfl ?_ rfl rfl ?_ ?_
      rotate_left
      · intro w' hF; have f0 := hF.1.cell0; have f1 := hF.1.cell1; have f2 := hF.2.cell0; have f3 := hF.2.cell1; clear hF; go_simp; try rfl
      rotate_left
      · simp only [Act.put]; exact rfl
      refine Calm.take (i := 3) (v := ?_) (a' := ?_) (l' := #[true, true, true, true, false, false, false, false, false]) (d := some 35) rfl (by kernel_rfl) (by kernel_rfl) (by kernel_rfl) (by kernel_rfl) (fun _ _ _ h => h) HF.out rfl ?_ rfl rfl ?_ ?_
      rotate_left
      · intro w' hF; have f0 := hF.1.cell0; have f1 := hF.1.cell1; have f2 := hF.2.cell0; have f3 := hF.2.cell1; clear hF; go_simp; try rfl
      rotate_left
      · simp only [Act.put]; exact rfl
      refine Calm.take (i := 4) (v := ?_) (a' := ?_) (l' := #[true, true, true, true, true, false, false, false, false]) (d := some 36) rfl (by kernel_rfl) (by kernel_rfl) (by kernel_rfl) (by kernel_rfl) (fun _ _ _ h => h) HF.out rfl ?_ rfl rfl ?_ ?_
      rotate_left
      · intro w' hF; have f0 := hF.1.cell0; have f1 := hF.1.cell1; have f2 := hF.2.cell0; have f3 := hF.2.cell1; clear hF; go_simp; try rfl
      rotate_left
      · simp only [Act.put]; exact rfl
      refine Calm.take (i := 5) (v := ?_) (a' := ?_) (l' := #[true, true, true, true, true, true, false, false, false]) (d := some 37) rfl (by kernel_rfl) (by kernel_rfl) (by kernel_rfl) (by kernel_rfl) (fun _ _ _ h => h) HF.out rfl ?_ rfl rfl ?_ ?_
      rotate_left
      · intro w' hF; have f0 := hF.1.cell0; have f1 := hF.1.cell1; have f2 := hF.2.cell0; have f3 := hF.2.cell1; clear hF; go_simp; try rfl
      rotate_left
      · simp only [Act.put]; exact rfl
      refine Calm.one (i := 6) (l' := #[true, true, true, true, true, true, true, false, false]) (by kernel_rfl) rfl rfl rfl fun K hK => ?_
      go_simp
      refine (rminus_any _ _ (D.lim n2) (D.lim n1) _ HN2.out.drew HN1.out.drew (D.ok_lim _) (D.ok_lim _) l2 (dlen_le (Nat.le_of_lt HLT.out)) (by rw [D.val_lim, D.val_lim]; exact Nat.le_of_lt HLT.out)).mono ?_
      rintro e w1 ⟨v1, acc, rfl, m1, mo, mv, hb1⟩
      rw [D.val_lim, D.val_lim] at mv
      have HM1 := hide (And.intro m1 (And.intro mo mv))
      clear m1 mo mv
      have HR := hide (HE.out.2.2.1.drew.step hb1)
      have HB1 := hide (HE.out.2.2.2.trans ((Below.refl _ _).drew.trans (hb1.mono HE.out.2.2.2.size)))
      have HF' := hide (And.intro (HF.out.1.step hb1) (HF.out.2.step hb1))
      refine hK _ _ (fun _ => HF'.out) ?_
      clear hK K HF
      have HF := hide HF'.out
      clear HF'
      refine Calm.one (i := 7) (l' := #[true, true, true, true, true, true, true, true, false]) (by kernel_rfl) rfl rfl rfl fun K hK => ?_
      go_simp
      refine (rnorm2_any (!b1) _ acc _ HM1.out.1 HM1.out.2.1).mono ?_
      rintro e w2 ⟨v, rfl, ⟨b', n', a', c', rfl, hn', he, h0⟩, hb2⟩
      rw [HM1.out.2.2] at he
      have HX := hide (HR.out.step hb2)
      have HB2 := hide (HB1.out.trans (hb2.mono HB1.out.size))
      have HF' := hide (And.intro (HF.out.1.step hb2) (HF.out.2.step hb2))
      refine hK _ _ (fun _ => HF'.out) ?_
      clear hK K HF
      have HF := hide HF'.out
      clear HF'
      refine Calm.one (i := 8) (l' := #[true, true, true, true, true, true, true, true, true]) (by kernel_rfl) rfl rfl rfl fun K hK => ?_
      have hc0 := HX.out.cell0
      have hc1 := HX.out.cell1
      have hf0 := HX.out.free 0
      have hf1 := HX.out.free 1
      go_simp
      refine hK _ _ (fun h => absurd h (by decide)) ?_
      clear hK K
      refine Calm.done (by kernel_rfl) ?_
      go_wp2
      refine ret_ref rfl (w.heap.size + 1 + 1) _ _ _ _ rfl ((HX.out.set0 _).set1 _) rfl ?_
      refine rhanded HX.out (by simp) (by simp) (by omega) HB2.out hn' ?_ h0
      rw [← he, sg_lt _ _ _ HLT.out]
    · have HLT := hide hlt
      have hcz : (0 : Int) ≤ cmpI n1 n2 := by
        unfold cmpI; rw [if_neg hlt]; split <;> decide
      clear hlt
      go_enter Try.func41, Try.ntmps41
      go_wp2_with fail
      refine (rsize_any _ _ n1 n2 _ HN1.out HN2.out).mono ?_
      rintro e wz ⟨rfl, hb⟩
      have HEz := hide (And.intro (HE.out.1.step hb) (And.intro (HE.out.2.1.step hb) (And.intro (HE.out.2.2.1.step hb) (HE.out.2.2.2.trans (hb.mono HE.out.2.2.2.size)))))
      replace HN1 := hide (HN1.out.below hb)
      replace HN2 := hide (HN2.out.below hb)
      clear hb HE
      have HE := hide HEz.out
      clear HEz
      go_wp2_with fail
      refine wp_calm (fun w' => Box2 w' w.heap.size 39 (.bool b1) (.slice a1 (D.lim n1).length c1) ∧ Box2 w' (w.heap.size + 1) 39 (.bool !b1) (.slice a2 (D.lim n2).length c2)) (fun j => j != 8) 9 #[false, false, false, false, false, false, false, false, false] (by kernel_rfl) rfl rfl ?_
      have HF := hide (And.intro HE.out.1.drew HE.out.2.1.drew)
      refine Calm.take (i := 0) (v := ?_) (a' := ?_) (l' := #[true, false, false, false, false, false, false, false, false]) (d := some 24) rfl (by kernel_rfl) (by kernel_rfl) (by kernel_rfl) (by kernel_rfl) (fun _ _ _ h => h) HF.out rfl ?_ rfl rfl ?_ ?_
      rotate_left
      · intro w' hF; have f0 := hF.1.cell0; have f1 := hF.1.cell1; have f2 := hF.2.cell0; have f3 := hF.2.cell1; clear hF; go_simp; try rfl
      rotate_left
      · simp only [Act.put]; exact rfl
      refine Calm.take (i := 1) (v := ?_) (a' := ?_) (l' := #[true, true, false, false, false, false, false, false, false]) (d := some 25) rfl (by kernel_rfl) (by kernel_rfl) (by kernel_rfl) (by kernel_rfl) (fun _ _ _ h => h) HF.out rfl ?_ rfl rfl ?_ ?_
      rotate_left
      · intro w' hF; have f0 := hF.1.cell0; have f1 := hF.1.cell1; have f2 := hF.2.cell0; have f3 := hF.2.cell1; clear hF; go_simp; try rfl
      rotate_left
      · simp only [Act.put]; exact rfl
      refine Calm.take (i := 2) (v := ?_) (a' := ?_) (l' := #[true, true, true, false, false, false, false, false, false]) (d := some 26) rfl (by kernel_rfl) (by kernel_rfl) (by kernel_rfl) (by kernel_rfl) (fun _ _ _ h => h) HF.out rfl ?_ rfl rfl ?_ ?_
      rotate_left
      · intro w' hF; have f0 := hF.1.cell0; have f1 := hF.1.cell1; have f2 := hF.2.cell0; have f3 := hF.2.cell1; clear hF; go_simp; try rfl
      rotate_left
      · simp only [Act.put]; exact rfl
      refine Calm.take (i := 3) (v := ?_) (a' := ?_) (l' := #[true, true, true, true, false, false, false, false, false]) (d := some 27) rfl (by kernel_rfl) (by kernel_rfl) (by kernel_rfl) (by kernel_rfl) (fun _ _ _ h => h) HF.out rfl ?_ rfl rfl ?_ ?_
      rotate_left
      · intro w' hF; have f0 := hF.1.cell0; have f1 := hF.1.cell1; have f2 := hF.2.cell0; have f3 := hF.2.cell1; clear hF; go_simp; try rfl
      rotate_left
      · simp only [Act.put]; exact rfl
      refine Calm.take (i := 4) (v := ?_) (a' := ?_) (l' := #[true, true, true, true, true, false, false, false, false]) (d := some 28) rfl (by kernel_rfl) (by kernel_rfl) (by kernel_rfl) (by kernel_rfl) (fun _ _ _ h => h) HF.out rfl ?_ rfl rfl ?_ ?_
      rotate_left
      · intro w' hF; have f0 := hF.1.cell0; have f1 := hF.1.cell1; have f2 := hF.2.cell0; have f3 := hF.2.cell1; clear hF; go_simp; try rfl
      rotate_left
      · simp only [Act.put]; exact rfl
      refine Calm.take (i := 5) (v := ?_) (a' := ?_) (l' := #[true, true, true, true, true, true, false, false, false]) (d := some 29) rfl (by kernel_rfl) (by kernel_rfl) (by kernel_rfl) (by kernel_rfl) (fun _ _ _ h => h) HF.out rfl ?_ rfl rfl ?_ ?_
      rotate_left
      · intro w' hF; have f0 := hF.1.cell0; have f1 := hF.1.cell1; have f2 := hF.2.cell0; have f3 := hF.2.cell1; clear hF; go_simp; try rfl
      rotate_left
      · simp only [Act.put]; exact rfl
      refine Calm.one (i := 6) (l' := #[true, true, true, true, true, true, true, false, false]) (by kernel_rfl) rfl rfl rfl fun K hK => ?_
      go_simp
      refine (rminus_any _ _ (D.lim n1) (D.lim n2) _ HN1.out.drew HN2.out.drew (D.ok_lim _) (D.ok_lim _) l1 (dlen_le (Nat.le_of_not_lt HLT.out)) (by rw [D.val_lim, D.val_lim]; exact Nat.le_of_not_lt HLT.out)).mono ?_
      rintro e w1 ⟨v1, acc, rfl, m1, mo, mv, hb1⟩
      rw [D.val_lim, D.val_lim] at mv
      have HM1 := hide (And.intro m1 (And.intro mo mv))
      clear m1 mo mv
      have HR := hide (HE.out.2.2.1.drew.step hb1)
      have HB1 := hide (HE.out.2.2.2.trans ((Below.refl _ _).drew.trans (hb1.mono HE.out.2.2.2.size)))
      have HF' := hide (And.intro (HF.out.1.step hb1) (HF.out.2.step hb1))
      refine hK _ _ (fun _ => HF'.out) ?_
      clear hK K HF
      have HF := hide HF'.out
      clear HF'
      refine Calm.one (i := 7) (l' := #[true, true, true, true, true, true, true, true, false]) (by kernel_rfl) rfl rfl rfl fun K hK => ?_
      go_simp
      refine (rnorm2_any b1 _ acc _ HM1.out.1 HM1.out.2.1).mono ?_
      rintro e w2 ⟨v, rfl, ⟨b', n', a', c', rfl, hn', he, h0⟩, hb2⟩
      rw [HM1.out.2.2] at he
      have HX := hide (HR.out.step hb2)
      have HB2 := hide (HB1.out.trans (hb2.mono HB1.out.size))
      have HF' := hide (And.intro (HF.out.1.step hb2) (HF.out.2.step hb2))
      refine hK _ _ (fun _ => HF'.out) ?_
      clear hK K HF
      have HF := hide HF'.out
      clear HF'
      refine Calm.one (i := 8) (l' := #[true, true, true, true, true, true, true, true, true]) (by kernel_rfl) rfl rfl rfl fun K hK => ?_
      have hc0 := HX.out.cell0
      have hc1 := HX.out.cell1
      have hf0 := HX.out.free 0
      have hf1 := HX.out.free 1
      go_simp
      refine hK _ _ (fun h => absurd h (by decide)) ?_
      clear hK K
      refine Calm.done (by kernel_rfl) ?_
      go_wp2
      refine ret_ref rfl (w.heap.size + 1 + 1) _ _ _ _ rfl ((HX.out.set0 _).set1 _) rfl ?_
      refine rhanded HX.out (by simp) (by simp) (by omega) HB2.out hn' ?_ h0
      rw [← he, sg_ge _ _ _ HLT.out]

end Go.Proofs.Ytngdnekbajnomaa
