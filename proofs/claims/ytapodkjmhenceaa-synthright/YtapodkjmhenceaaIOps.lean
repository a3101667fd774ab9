/- integer.Int's Sign, Neg, Abs, Cmp, Add, Sub, Mul. -/
import Derived.Test.YtapodkjmhenceaaIMade
import Derived.Test.YtapodkjmhenceaaCalm
namespace Go.Proofs.Ytapodkjmhenceaa
open Go.RowKit

def sgnI (z : Int) : Int := if z < 0 then -1 else if z = 0 then 0 else 1
def cmpZ (x y : Int) : Int := if x < y then -1 else if x = y then 0 else 1

/-- a struct handed on: what stands behind it in the end -/
theorem handed {w w' : World} {g : Nat} {x y : Value} {z : Int} {b : Bool} {n : Nat} {a : Option Addr} {c : Nat} (hX : Box w' g x y) (hx : ∀ z, x ≠ .int .u32 z) (hy : ∀ z, y ≠ .int .u32 z) (hg : w.heap.size ≤ g) (hB : Below w.heap.size w w')
    (hn : Nums w' (.slice a (lim n).length c) (lim n)) (he : z = sg b n) (h0 : n = 0 → b = false) :
    ∃ v, Ending.returned (.agg #[.bool b, .slice a (lim n).length c]) = .returned v ∧ IntAt ((w'.setCell ⟨g, 0, none⟩ (.bool b)).setCell ⟨g, 1, none⟩ (.slice a (lim n).length c)) v z ∧ Below w.heap.size w ((w'.setCell ⟨g, 0, none⟩ (.bool b)).setCell ⟨g, 1, none⟩ (.slice a (lim n).length c)) :=
  ⟨_, rfl, ⟨b, n, a, c, rfl, hX.keeps hx hy _ _ _ _ hn, he, h0⟩, (hB.setCell (p := ⟨g, 0, none⟩) hg _).setCell (p := ⟨g, 1, none⟩) hg _⟩

set_option maxRecDepth 100000 in
set_option maxHeartbeats 1000000 in
theorem imul_any (v1 v2 : Value) (x y : Int) (w : World) (h1 : IntAt w v1 x) (h2 : IntAt w v2 y) (l1 : (lim x.natAbs).length ≤ 1000000000) (l2 : (lim y.natAbs).length ≤ 1000000000) :
    Calls Try.prog 27 #[v1, v2] w fun e w' => ∃ v', e = .returned v' ∧ IntAt w' v' (x * y) ∧ Below w.heap.size w w' := by
  obtain ⟨b1, n1, a1, c1, rfl, hn1, rfl, h01⟩ := h1
  obtain ⟨b2, n2, a2, c2, rfl, hn2, rfl, h02⟩ := h2
  have HE := hide (boxes3 w (.bool b1) (.slice a1 (lim n1).length c1) (.bool b2) (.slice a2 (lim n2).length c2) (.bool false) (.slice none 0 0))
  have HN1 := hide (hn1.below HE.out.2.2.2)
  have HN2 := hide (hn2.below HE.out.2.2.2)
  rw [sg_abs] at l1 l2
  clear hn1 h01 hn2 h02
  go_enter Try.func27, Try.ntmps27
  go_wp2_with fail
  refine wp_calm (fun w' => Box w' w.heap.size (.bool b1) (.slice a1 (lim n1).length c1) ∧ Box w' (w.heap.size + 1) (.bool b2) (.slice a2 (lim n2).length c2)) (fun j => j != 11) 12 #[false, false, false, false, false, false, false, false, false, false, false, false] (by kernel_rfl) rfl rfl ?_
  have HF := hide (And.intro HE.out.1.drew HE.out.2.1.drew)
  refine Calm.take (i := 0) (v := ?_) (a' := ?_) (l' := #[true, false, false, false, false, false, false, false, false, false, false, false]) (d := some 5) rfl (by kernel_rfl) (by kernel_rfl) (by kernel_rfl) (by kernel_rfl) (fun _ _ _ h => h) HF.out rfl ?_ rfl rfl ?_ ?_
  rotate_left
  · intro w' hF; have f0 := hF.1.cell0; have f1 := hF.1.cell1; have f2 := hF.2.cell0; have f3 := hF.2.cell1; clear hF; go_simp; try rfl
  rotate_left
  · simp only [Act.put]; exact rfl
  refine Calm.take (i := 1) (v := ?_) (a' := ?_) (l' := #[true, true, false, false, false, false, false, false, false, false, false, false]) (d := some 6) rfl (by kernel_rfl) (by kernel_rfl) (by kernel_rfl) (by kernel_rfl) (fun _ _ _ h => h) HF.out rfl ?_ rfl rfl ?_ ?_
  rotate_left
  · intro w' hF; have f0 := hF.1.cell0; have f1 := hF.1.cell1; have f2 := hF.2.cell0; have f3 := hF.2.cell1; clear hF; go_simp; try rfl
  rotate_left
  · simp only [Act.put]; exact rfl
  refine Calm.take (i := 2) (v := ?_) (a' := ?_) (l' := #[true, true, true, false, false, false, false, false, false, false, false, false]) (d := some 7) rfl (by kernel_rfl) (by kernel_rfl) (by kernel_rfl) (by kernel_rfl) (fun _ _ _ h => h) HF.out rfl ?_ rfl rfl ?_ ?_
  rotate_left
  · intro w' hF; have f0 := hF.1.cell0; have f1 := hF.1.cell1; have f2 := hF.2.cell0; have f3 := hF.2.cell1; clear hF; go_simp; try rfl
  rotate_left
  · simp only [Act.put]; exact rfl
  refine Calm.take (i := 3) (v := ?_) (a' := ?_) (l' := #[true, true, true, true, false, false, false, false, false, false, false, false]) (d := some 8) rfl (by kernel_rfl) (by kernel_rfl) (by kernel_rfl) (by kernel_rfl) (fun _ _ _ h => h) HF.out rfl ?_ rfl rfl ?_ ?_
  rotate_left
  · intro w' hF; have f0 := hF.1.cell0; have f1 := hF.1.cell1; have f2 := hF.2.cell0; have f3 := hF.2.cell1; clear hF; go_simp; try rfl
  rotate_left
  · simp only [Act.put]; exact rfl
  refine Calm.take (i := 4) (v := ?_) (a' := ?_) (l' := #[true, true, true, true, true, false, false, false, false, false, false, false]) (d := some 9) rfl (by kernel_rfl) (by kernel_rfl) (by kernel_rfl) (by kernel_rfl) (fun _ _ _ h => h) HF.out rfl ?_ rfl rfl ?_ ?_
  rotate_left
  · intro w' hF; have f0 := hF.1.cell0; have f1 := hF.1.cell1; have f2 := hF.2.cell0; have f3 := hF.2.cell1; clear hF; go_simp; try rfl
  rotate_left
  · simp only [Act.put]; exact rfl
  refine Calm.take (i := 5) (v := ?_) (a' := ?_) (l' := #[true, true, true, true, true, true, false, false, false, false, false, false]) (d := some 10) rfl (by kernel_rfl) (by kernel_rfl) (by kernel_rfl) (by kernel_rfl) (fun _ _ _ h => h) HF.out rfl ?_ rfl rfl ?_ ?_
  rotate_left
  · intro w' hF; have f0 := hF.1.cell0; have f1 := hF.1.cell1; have f2 := hF.2.cell0; have f3 := hF.2.cell1; clear hF; go_simp; try rfl
  rotate_left
  · simp only [Act.put]; exact rfl
  refine Calm.take (i := 6) (v := ?_) (a' := ?_) (l' := #[true, true, true, true, true, true, true, false, false, false, false, false]) (d := some 11) rfl (by kernel_rfl) (by kernel_rfl) (by kernel_rfl) (by kernel_rfl) (fun _ _ _ h => h) HF.out rfl ?_ rfl rfl ?_ ?_
  rotate_left
  · intro w' hF; have f0 := hF.1.cell0; have f1 := hF.1.cell1; have f2 := hF.2.cell0; have f3 := hF.2.cell1; clear hF; go_simp; try rfl
  rotate_left
  · simp only [Act.put]; exact rfl
  refine Calm.take (i := 7) (v := ?_) (a' := ?_) (l' := #[true, true, true, true, true, true, true, true, false, false, false, false]) (d := some 12) rfl (by kernel_rfl) (by kernel_rfl) (by kernel_rfl) (by kernel_rfl) (fun _ _ _ h => h) HF.out rfl ?_ rfl rfl ?_ ?_
  rotate_left
  · intro w' hF; have f0 := hF.1.cell0; have f1 := hF.1.cell1; have f2 := hF.2.cell0; have f3 := hF.2.cell1; clear hF; go_simp; try rfl
  rotate_left
  · simp only [Act.put]; exact rfl
  refine Calm.take (i := 8) (v := ?_) (a' := ?_) (l' := #[true, true, true, true, true, true, true, true, true, false, false, false]) (d := some 13) rfl (by kernel_rfl) (by kernel_rfl) (by kernel_rfl) (by kernel_rfl) (fun _ _ _ h => h) HF.out rfl ?_ rfl rfl ?_ ?_
  rotate_left
  · intro w' hF; have f0 := hF.1.cell0; have f1 := hF.1.cell1; have f2 := hF.2.cell0; have f3 := hF.2.cell1; clear hF; go_simp; try rfl
  rotate_left
  · simp only [Act.put]; exact rfl
  refine Calm.one (i := 9) (l' := #[true, true, true, true, true, true, true, true, true, true, false, false]) (by kernel_rfl) rfl rfl rfl fun K hK => ?_
  go_simp
  refine (mul_any _ _ (lim n1) (lim n2) _ HN1.out.drew HN2.out.drew l1 l2).mono ?_
  rintro e w1 ⟨v1, rfl, m1, hb1⟩
  rw [val_lim, val_lim] at m1
  have HM1 := hide m1
  have HR := hide (HE.out.2.2.1.drew.step hb1)
  have HB1 := hide (HE.out.2.2.2.trans ((Below.refl _ _).drew.trans (hb1.mono HE.out.2.2.2.size)))
  have HF' := hide (And.intro (HF.out.1.step hb1) (HF.out.2.step hb1))
  refine hK _ _ (fun _ => HF'.out) ?_
  clear hK K HF
  have HF := hide HF'.out
  clear HF'
  refine Calm.one (i := 10) (l' := #[true, true, true, true, true, true, true, true, true, true, true, false]) (by kernel_rfl) rfl rfl rfl fun K hK => ?_
  go_simp
  refine (made_any _ (n1 * n2) _ _ HM1.out).mono ?_
  rintro e w2 ⟨v, rfl, ⟨b', n', a', c', rfl, hn', he, h0⟩, hb2⟩
  have HX := hide (HR.out.step hb2)
  have HB2 := hide (HB1.out.trans (hb2.mono HB1.out.size))
  have HF' := hide (And.intro (HF.out.1.step hb2) (HF.out.2.step hb2))
  refine hK _ _ (fun _ => HF'.out) ?_
  clear hK K HF
  have HF := hide HF'.out
  clear HF'
  refine Calm.one (i := 11) (l' := #[true, true, true, true, true, true, true, true, true, true, true, true]) (by kernel_rfl) rfl rfl rfl fun K hK => ?_
  have hc0 := HX.out.cell0
  have hc1 := HX.out.cell1
  have hf0 := HX.out.free 0
  have hf1 := HX.out.free 1
  go_simp
  refine hK _ _ (fun h => absurd h (by decide)) ?_
  clear hK K
  refine Calm.done (by kernel_rfl) ?_
  go_wp2
  refine ret_int rfl (w.heap.size + 1 + 1) _ _ _ _ rfl ((HX.out.set0 _).set1 _) rfl ?_
  refine handed HX.out (by simp) (by simp) (by omega) HB2.out hn' ?_ h0
  rw [← he, ← sg_mul]
  rfl

theorem neg_abs (z : Int) : (-z).natAbs = z.natAbs := by omega
end Go.Proofs.Ytapodkjmhenceaa
