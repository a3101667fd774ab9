/- ratio.Rat's Text. -/
import Derived.Test.YtgkibmigbjjnnaaRLow
import Derived.Test.YtgkibmigbjjnnaaIText
import Derived.Deep.Cut
namespace Go.Proofs.Ytgkibmigbjjnnaa
open Go.RowKit Go.Shelf

theorem itxt_sizeR {k : Nat} {z : Int} (h : SzI k z) : (itxt z).size ≤ 32 * k + 2 := by
  unfold itxt
  rw [strOfNums_size, List.length_append]
  have h1 := dec_bound (n := z.natAbs) h
  have h2 : (byts (dec z.natAbs)).length = (dec z.natAbs).length := by simp [byts]
  have h3 : (if z < 0 then [(45 : Int)] else []).length ≤ 1 := by split <;> simp
  omega
/-- a fraction's text -/
def rtxt (q : Rat) : ByteArray := if q.den = 1 then itxt q.num else itxt q.num ++ ⟨#[47]⟩ ++ itxt (q.den : Int)

set_option maxRecDepth 100000 in
set_option maxHeartbeats 4000000 in
theorem rttext_any (v1 : Value) (x : Rat) (w : World) (h1 : RatAt w v1 x) (hx : SzR 100000000 x) :
    Calls Try.prog 12 #[v1] w fun e w' => e = .returned (.string (rtxt x)) ∧ Below w.heap.size w w' := by
  have HX := hide hx
  clear hx
  obtain ⟨s1, m1, n1, c1, t1, o1, p1, d1, rfl, i1⟩ := h1.cells
  have I1 := hide i1
  clear h1 i1
  have P0 := Box4.new w (.bool s1) (.slice m1 n1 c1) (.bool t1) (.slice o1 p1 d1)
  replace P0 := hide P0
  have HB := below_alloc w (.cells #[.bool s1, .slice m1 n1 c1, .bool t1, .slice o1 p1 d1] 27)
  replace I1 := hide (I1.out.below HB)
  replace HB := hide HB
  go_enter Try.func12, Try.ntmps12
  go_wp2_with fail
  generalize (w.alloc (.cells #[.bool s1, .slice m1 n1 c1, .bool t1, .slice o1 p1 d1] 27)) = w0 at *
  refine (iswhole_any _ x _ I1.out).mono ?_
  rintro e u1 ⟨he, hb⟩
  replace I1 := hide (I1.out.below (hb))
  replace P0 := hide (P0.out.step (hb))
  replace HB := hide (HB.out.trans ((hb).mono HB.out.size))
  clear hb
  by_cases hd : x.den = 1
  · have HD := hide hd
    rw [show decide (x.den = 1) = true from by simpa using hd] at he
    subst he
    clear hd
    have hP00 := P0.out.cell0
    have hP01 := P0.out.cell1
    have hP02 := P0.out.cell2
    have hP03 := P0.out.cell3
    go_wp2_with fail
    refine (itext_any _ x.num _ I1.out.num (SzI.len HX.out.num (by decide))).mono ?_
    rintro e u2 ⟨rfl, hb⟩
    clear hP00 hP01 hP02 hP03
    replace I1 := hide (I1.out.below (hb))
    replace P0 := hide (P0.out.step (hb))
    replace HB := hide (HB.out.trans ((hb).mono HB.out.size))
    clear hb
    go_wp2
    go_ret
    exact ⟨by rw [rtxt, if_pos HD.out]; rfl, HB.out⟩
  · have HD := hide hd
    rw [show decide (x.den = 1) = false from by simpa using hd] at he
    subst he
    clear hd
    have z1 : ¬ 9223372036854775807 < (itxt x.num).size + 1 := by have := itxt_sizeR HX.out.num; omega
    have z2 : ¬ 9223372036854775807 < (itxt x.num).size + 1 + (itxt (x.den : Int)).size := by have := itxt_sizeR HX.out.num; have := itxt_sizeR HX.out.den; omega
    go_wp2_with fail
    refine wp_calm (fun w' => Below w.heap.size w w' ∧ Box4 w' w.heap.size (.bool s1) (.slice m1 n1 c1) (.bool t1) (.slice o1 p1 d1) ∧ RatAt w' (.agg #[.bool s1, .slice m1 n1 c1, .bool t1, .slice o1 p1 d1]) x) (fun _ => true) 9 #[false, false, false, false, false, false, false, false, false] (by kernel_rfl) rfl rfl ?_
    have HF := hide (And.intro (HB.out.drew) (And.intro (P0.out.drew) (I1.out.drew)))
    generalize u1.drew = u1d at *
    refine Calm.take (i := 0) (v := ?_) (a' := ?_) (l' := #[true, false, false, false, false, false, false, false, false]) (d := some 8) rfl (by kernel_rfl) (by kernel_rfl) (by kernel_rfl) (by kernel_rfl) (fun _ _ _ h => h) HF.out rfl ?_ rfl rfl ?_ ?_
    rotate_left
    · intro w' hF; clear hF; go_simp; try rfl
    rotate_left
    · simp only [Act.put]; exact rfl
    refine Calm.take (i := 1) (v := ?_) (a' := ?_) (l' := #[true, true, false, false, false, false, false, false, false]) (d := some 9) rfl (by kernel_rfl) (by kernel_rfl) (by kernel_rfl) (by kernel_rfl) (fun _ _ _ h => h) HF.out rfl ?_ rfl rfl ?_ ?_
    rotate_left
    · intro w' hF; have f10 := hF.2.1.cell0; have f11 := hF.2.1.cell1; have f12 := hF.2.1.cell2; have f13 := hF.2.1.cell3; clear hF; go_simp; try rfl
    rotate_left
    · simp only [Act.put]; exact rfl
    refine Calm.take (i := 4) (v := ?_) (a' := ?_) (l' := #[true, true, false, false, true, false, false, false, false]) (d := some 12) rfl (by kernel_rfl) (by kernel_rfl) (by kernel_rfl) (by kernel_rfl) (fun _ _ _ h => h) HF.out rfl ?_ rfl rfl ?_ ?_
    rotate_left
    · intro w' hF; clear hF; go_simp; try rfl
    rotate_left
    · simp only [Act.put]; exact rfl
    refine Calm.take (i := 5) (v := ?_) (a' := ?_) (l' := #[true, true, false, false, true, true, false, false, false]) (d := some 13) rfl (by kernel_rfl) (by kernel_rfl) (by kernel_rfl) (by kernel_rfl) (fun _ _ _ h => h) HF.out rfl ?_ rfl rfl ?_ ?_
    rotate_left
    · intro w' hF; have f10 := hF.2.1.cell0; have f11 := hF.2.1.cell1; have f12 := hF.2.1.cell2; have f13 := hF.2.1.cell3; clear hF; go_simp; try rfl
    rotate_left
    · simp only [Act.put]; exact rfl
    refine Calm.one (i := 2) (l' := #[true, true, true, false, true, true, false, false, false]) (by kernel_rfl) rfl rfl rfl fun K hK => ?_
    go_simp
    refine (itext_any _ x.num _ HF.out.2.2.num (SzI.len HX.out.num (by decide))).mono ?_
    rintro e u2 ⟨rfl, hb⟩
    have HF' := hide (And.intro (HF.out.1.trans ((hb).mono HF.out.1.size)) (And.intro (HF.out.2.1.step (hb)) (HF.out.2.2.below (hb))))
    refine hK _ _ (fun _ => HF'.out) ?_
    clear hK K HF hb
    have HF := hide HF'.out
    clear HF'
    refine Calm.take (i := 3) (v := ?_) (a' := ?_) (l' := #[true, true, true, true, true, true, false, false, false]) (d := some 11) rfl (by kernel_rfl) (by kernel_rfl) (by kernel_rfl) (by kernel_rfl) (fun _ _ _ h => h) HF.out rfl ?_ rfl rfl ?_ ?_
    rotate_left
    · intro w' hF; clear hF; go_simp; try rfl
    rotate_left
    · simp only [Act.put]; exact rfl
    refine Calm.one (i := 6) (l' := #[true, true, true, true, true, true, true, false, false]) (by kernel_rfl) rfl rfl rfl fun K hK => ?_
    go_simp
    refine (itext_any _ (x.den : Int) _ (by have := HF.out.2.2.dn; rwa [dn, if_neg HD.out] at this) (SzI.len HX.out.den (by decide))).mono ?_
    rintro e u3 ⟨rfl, hb⟩
    have HF' := hide (And.intro (HF.out.1.trans ((hb).mono HF.out.1.size)) (And.intro (HF.out.2.1.step (hb)) (HF.out.2.2.below (hb))))
    refine hK _ _ (fun _ => HF'.out) ?_
    clear hK K HF hb
    have HF := hide HF'.out
    clear HF'
    refine Calm.take (i := 7) (v := ?_) (a' := ?_) (l' := #[true, true, true, true, true, true, true, true, false]) (d := some 15) rfl (by kernel_rfl) (by kernel_rfl) (by kernel_rfl) (by kernel_rfl) (fun _ _ _ h => h) HF.out rfl ?_ rfl rfl ?_ ?_
    rotate_left
    · intro w' hF; clear hF; go_simp; try rfl
    rotate_left
    · simp only [Act.put]; exact rfl
    refine Calm.take (i := 8) (v := ?_) (a' := ?_) (l' := #[true, true, true, true, true, true, true, true, true]) (d := some 2) rfl (by kernel_rfl) (by kernel_rfl) (by kernel_rfl) (by kernel_rfl) (fun _ _ _ h => h) HF.out rfl ?_ rfl rfl ?_ ?_
    rotate_left
    · intro w' hF; clear hF; go_simp; try rfl
    rotate_left
    · simp only [Act.put]; exact rfl
    refine Calm.done (by kernel_rfl) ?_
    replace HB := hide HF.out.1
    replace P0 := hide HF.out.2.1
    replace I1 := hide HF.out.2.2
    clear HF
    go_wp2
    go_ret
    exact ⟨by rw [rtxt, if_neg HD.out]; rfl, HB.out⟩
end Go.Proofs.Ytgkibmigbjjnnaa
