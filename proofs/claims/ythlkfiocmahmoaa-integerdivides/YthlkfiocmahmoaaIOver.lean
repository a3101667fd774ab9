/- integer.Int's DivMod by 0, and Over. -/
import Derived.Test.YthlkfiocmahmoaaIDiv
import Derived.Test.YthlkfiocmahmoaaIRead
import Derived.Test.YthlkfiocmahmoaaR2Law
namespace Go.Proofs.Ythlkfiocmahmoaa
open Go.RowKit

set_option maxRecDepth 100000 in
set_option maxHeartbeats 2000000 in
theorem idivmod_zero (v1 v2 : Value) (x : Int) (w : World) (h1 : IntAt w v1 x) (h2 : IntAt w v2 0) :
    Calls Try.prog 11 #[v1, v2] w fun e w' => ∃ q r, e = .returned (.tuple #[q, r, .int .i64 2]) ∧ IntAt w' q 0 ∧ IntAt w' r 0 ∧ Below w.heap.size w w' := by
  obtain ⟨b1, n1, a1, c1, rfl, hn1, rfl, h01⟩ := h1
  obtain ⟨b2, n2, a2, c2, rfl, hn2, he2, h02⟩ := h2
  have e2 : n2 = 0 := by have := congrArg Int.natAbs he2; rw [sg_abs] at this; simpa using this.symm
  subst e2
  have HE := hide (boxes4 w (.bool b1) (.slice a1 (lim n1).length c1) (.bool b2) (.slice a2 (lim 0).length c2) (.bool false) (.slice none 0 0) (.bool false) (.slice none 0 0) _ rfl)
  have HN1 := hide (hn1.below HE.out.2.2.2.2)
  have HN2 := hide (hn2.below HE.out.2.2.2.2)
  clear hn1 h01 hn2 h02 he2
  go_enter Try.func11, Try.ntmps11
  go_wp2_with fail
  refine (divmod_zero _ _ (lim n1) (lim 0) _ HN1.out HN2.out (by rw [val_lim])).mono ?_
  rintro e w1 ⟨rfl, rfl⟩
  have P2 := hide HE.out.2.2.1
  have P3 := hide HE.out.2.2.2.1
  have HB := hide HE.out.2.2.2.2
  clear HE HN1 HN2
  go_wp2
  refine ret_div rfl (w.heap.size + 1 + 1) (w.heap.size + 1 + 1 + 1) _ _ _ _ rfl rfl P2.out P3.out rfl ?_
  exact ⟨_, _, rfl, int_zero _, int_zero _, HB.out⟩

/-- what Over answers -/
def IOv (x c z a : Int) : Prop := (c = 0 ∧ z = 0 ∧ a = 2) ∨ (c ≠ 0 ∧ x % c ≠ 0 ∧ z = 0 ∧ a = 20) ∨ (c ≠ 0 ∧ x % c = 0 ∧ z = x / c ∧ a = 0)

set_option maxRecDepth 100000 in
set_option maxHeartbeats 8000000 in
theorem iover_any (v : Value) (x c : Int) (w : World) (h : IntAt w v x) (l1 : (lim x.natAbs).length ≤ 1000000000) (hlo : -9223372036854775808 ≤ c) (hhi : c ≤ 9223372036854775807) :
    Calls Try.prog 16 #[v, .int .i64 c] w fun e w' => ∃ (v' : Value) (z a : Int), e = .returned (.tuple #[v', .int .i64 a]) ∧ IntAt w' v' z ∧ IOv x c z a ∧ Below w.heap.size w w' := by
  have HL := hide hlo
  have HH := hide hhi
  have LX := hide l1
  obtain ⟨b1, a1, L1, c1, rfl, i1⟩ := h.cells
  have HE := hide (boxes2 w (.bool b1) (.slice a1 L1 c1) (.bool false) (.slice none 0 0))
  have I1 := hide (i1.below HE.out.2.2)
  have P0 := hide HE.out.1
  have P1 := hide HE.out.2.1
  have HB := hide HE.out.2.2
  clear h i1 HE hlo hhi l1
  go_enter Try.func16, Try.ntmps16
  by_cases hc : c = 0
  · have HC := hide hc
    subst hc
    go_wp2_with fail
    generalize (w.alloc (.cells #[.bool b1, .slice a1 L1 c1] 28)).alloc (.cells #[.bool false, .slice none 0 0] 28) = w0 at *
    go_cut [6, 7, 8] from 9 (fun pq pr ev wx => ∃ gq gr sq mq kq cq sr mr kr cr, pq = .pointer (some ⟨gq, 0, none⟩) ∧ pr = .pointer (some ⟨gr, 0, none⟩) ∧ ev = .int .i64 2 ∧ (w.heap.size < gq ∧ (w.heap.size + 1) < gq ∧ w.heap.size < gr ∧ (w.heap.size + 1) < gr ∧ gq ≠ gr) ∧ Below w.heap.size w wx ∧ Box wx w.heap.size (.bool b1) (.slice a1 L1 c1) ∧ Box wx (w.heap.size + 1) (.bool false) (.slice none 0 0) ∧ Box wx gq (.bool sq) (.slice mq kq cq) ∧ Box wx gr (.bool sr) (.slice mr kr cr) ∧ IntAt wx (.agg #[.bool sq, .slice mq kq cq]) 0 ∧ IntAt wx (.agg #[.bool sr, .slice mr kr cr]) 0)
    case first =>
      refine wp_calm (fun w' => Below w.heap.size w w' ∧ Box w' w.heap.size (.bool b1) (.slice a1 L1 c1) ∧ Box w' (w.heap.size + 1) (.bool false) (.slice none 0 0) ∧ IntAt w' (.agg #[.bool b1, .slice a1 L1 c1]) x) (fun _ => true) 13 #[false, false, false, false, false, false, false, false, false, false, false, false, false] (by kernel_rfl) rfl rfl ?_
      have HF := hide (And.intro (HB.out.drew) (And.intro (P0.out.drew) (And.intro (P1.out.drew) (I1.out.drew))))
      generalize w0.drew = w0d at *
      refine Calm.take (i := 0) (v := ?_) (a' := ?_) (l' := #[true, false, false, false, false, false, false, false, false, false, false, false, false]) (d := some 10) rfl (by kernel_rfl) (by kernel_rfl) (by kernel_rfl) (by kernel_rfl) (fun _ _ _ h => h) HF.out rfl ?_ rfl rfl ?_ ?_
      rotate_left
      · intro w' hF; have f10 := hF.2.1.cell0; have f11 := hF.2.1.cell1; have f20 := hF.2.2.1.cell0; have f21 := hF.2.2.1.cell1; clear hF; go_simp; try rfl
      rotate_left
      · simp only [Act.put]; exact rfl
      refine Calm.take (i := 1) (v := ?_) (a' := ?_) (l' := #[true, true, false, false, false, false, false, false, false, false, false, false, false]) (d := some 11) rfl (by kernel_rfl) (by kernel_rfl) (by kernel_rfl) (by kernel_rfl) (fun _ _ _ h => h) HF.out rfl ?_ rfl rfl ?_ ?_
      rotate_left
      · intro w' hF; clear hF; go_simp; try rfl
      rotate_left
      · simp only [Act.put]; exact rfl
      refine Calm.three (i := 2) (j := 8) (m := 9) (l := #[true, true, true, false, false, false, false, false, false, false, false, false, false]) (l' := #[true, true, false, false, false, false, false, false, true, false, false, false, false]) (l'' := #[true, true, false, false, false, false, false, false, false, true, false, false, false]) (by kernel_rfl) rfl rfl rfl rfl rfl rfl rfl rfl rfl (fun K hK => ?_) (fun K hK => ?_) (fun K hK => ?_)
      · go_simp
        refine (iof_any 0 _ (by first | exact HL.out | decide) (by first | exact HH.out | decide)).mono ?_
        rintro e u1 ⟨v, rfl, n, hb⟩
        have HF' := hide (And.intro (HF.out.1.trans ((hb).mono HF.out.1.size)) (And.intro (HF.out.2.1.step (hb)) (And.intro (HF.out.2.2.1.step (hb)) (HF.out.2.2.2.below (hb)))))
        have TC := hide (n)
        refine hK _ _ (fun _ => HF'.out) ?_
        clear hK K HF hb n
        have HF := hide HF'.out
        clear HF'
        refine Calm.three (i := 3) (j := 8) (m := 9) (l := #[true, true, true, true, false, false, false, false, false, false, false, false, false]) (l' := #[true, true, true, false, false, false, false, false, true, false, false, false, false]) (l'' := #[true, true, true, false, false, false, false, false, false, true, false, false, false]) (by kernel_rfl) rfl rfl rfl rfl rfl rfl rfl rfl rfl (fun K hK => ?_) (fun K hK => ?_) (fun K hK => ?_)
        · go_simp
          refine (idivmod_zero _ _ x _ HF.out.2.2.2 TC.out).mono ?_
          rintro e u2 ⟨q, r, rfl, n, n', hb⟩
          obtain ⟨sq, mq, kq, cq, rfl, n⟩ := n.cells
          obtain ⟨sr, mr, kr, cr, rfl, n'⟩ := n'.cells
          clear TC
          have HF' := hide (And.intro (HF.out.1.trans ((hb).mono HF.out.1.size)) (And.intro (HF.out.2.1.step (hb)) (And.intro (HF.out.2.2.1.step (hb)) (HF.out.2.2.2.below (hb)))))
          have TQ := hide (n)
          have TR := hide (n')
          refine hK _ _ (fun _ => HF'.out) ?_
          clear hK K HF hb n n'
          have HF := hide HF'.out
          clear HF'
          refine Calm.take (i := 4) (v := ?_) (a' := ?_) (l' := #[true, true, true, true, true, false, false, false, false, false, false, false, false]) (d := some 9) rfl (by kernel_rfl) (by kernel_rfl) (by kernel_rfl) (by kernel_rfl) (fun _ _ _ h => h) HF.out rfl ?_ rfl rfl ?_ ?_
          rotate_left
          · intro w' hF; clear hF; go_simp; try rfl
          rotate_left
          · simp only [Act.put]; exact rfl
          refine Calm.take (i := 5) (v := ?_) (a' := ?_) (l' := #[true, true, true, true, true, true, false, false, false, false, false, false, false]) (d := some 14) rfl (by kernel_rfl) (by kernel_rfl) (by kernel_rfl) (by kernel_rfl) (fun _ _ _ h => h) HF.out rfl ?_ rfl rfl ?_ ?_
          rotate_left
          · intro w' hF; clear hF; go_simp; try rfl
          rotate_left
          · simp only [Act.put]; exact rfl
          refine Calm.take (i := 6) (v := ?_) (a' := ?_) (l' := #[true, true, true, true, true, true, true, false, false, false, false, false, false]) (d := some 15) rfl (by kernel_rfl) (by kernel_rfl) (by kernel_rfl) (by kernel_rfl) (fun _ _ _ h => h) HF.out rfl ?_ rfl rfl ?_ ?_
          rotate_left
          · intro w' hF; clear hF; go_simp; try rfl
          rotate_left
          · simp only [Act.put]; exact rfl
          refine Calm.take (i := 7) (v := ?_) (a' := ?_) (l' := #[true, true, true, true, true, true, true, true, false, false, false, false, false]) (d := some 16) rfl (by kernel_rfl) (by kernel_rfl) (by kernel_rfl) (by kernel_rfl) (fun _ _ _ h => h) HF.out rfl ?_ rfl rfl ?_ ?_
          rotate_left
          · intro w' hF; clear hF; go_simp; try rfl
          rotate_left
          · simp only [Act.put]; exact rfl
          refine Calm.two (i := 8) (j := 9) (l := #[true, true, true, true, true, true, true, true, true, false, false, false, false]) (l' := #[true, true, true, true, true, true, true, true, false, true, false, false, false]) (by kernel_rfl) rfl rfl rfl rfl rfl rfl (fun K hK => ?_) (fun K hK => ?_)
          · go_simp
            have al := below_alloc u2 (.cells #[.bool false, .slice none 0 0] 28)
            have HF' := hide (And.intro (HF.out.1.trans ((al).mono HF.out.1.size)) (And.intro (HF.out.2.1.step (al)) (And.intro (HF.out.2.2.1.step (al)) (HF.out.2.2.2.below (al)))))
            have BXq := hide (Box.new u2 (.bool false) (.slice none 0 0))
            replace TQ := hide (TQ.out.below (al))
            replace TR := hide (TR.out.below (al))
            have LT1q := hide (HF.out.2.1.lt)
            have LT2q := hide (HF.out.2.2.1.lt)
            have GEq := hide (HF.out.1.size)
            refine hK _ _ (fun _ => HF'.out) ?_
            clear hK K HF al
            have HF := hide HF'.out
            clear HF'
            generalize u2.alloc (.cells #[.bool false, .slice none 0 0] 28) = wzq at *
            generalize u2.heap.size = gq at *
            refine Calm.one (i := 9) (l' := #[true, true, true, true, true, true, true, true, true, true, false, false, false]) (by kernel_rfl) rfl rfl rfl fun K hK => ?_
            go_simp
            have al := below_alloc wzq (.cells #[.bool false, .slice none 0 0] 28)
            have HF' := hide (And.intro (HF.out.1.trans ((al).mono HF.out.1.size)) (And.intro (HF.out.2.1.step (al)) (And.intro (HF.out.2.2.1.step (al)) (HF.out.2.2.2.below (al)))))
            have BXr := hide (Box.new wzq (.bool false) (.slice none 0 0))
            replace TQ := hide (TQ.out.below (al))
            replace TR := hide (TR.out.below (al))
            have LTqr := hide (BXq.out.lt)
            replace BXq := hide (BXq.out.step al)
            have LT1r := hide (HF.out.2.1.lt)
            have LT2r := hide (HF.out.2.2.1.lt)
            have GEr := hide (HF.out.1.size)
            refine hK _ _ (fun _ => HF'.out) ?_
            clear hK K HF al
            have HF := hide HF'.out
            clear HF'
            generalize wzq.alloc (.cells #[.bool false, .slice none 0 0] 28) = wzr at *
            generalize wzq.heap.size = gr at *
            refine Calm.one (i := 10) (l' := #[true, true, true, true, true, true, true, true, true, true, true, false, false]) (by kernel_rfl) rfl rfl rfl fun K hK => ?_
            have LTS := hide (And.intro LT1q.out (And.intro LT2q.out (And.intro LT1r.out (And.intro LT2r.out (show gq ≠ gr by first | exact Nat.ne_of_lt LTqr.out | exact Nat.ne_of_gt LTrq.out)))))
            have hc0 := BXq.out.cell0
            have hc1 := BXq.out.cell1
            have hf0 := BXq.out.free 0
            have hf1 := BXq.out.free 1
            go_simp
            have HF' := hide (And.intro (below_put HF.out.1 (show w.heap.size ≤ gq by have hx := LTS.out; omega) (.bool sq) (.slice mq kq cq)) (And.intro (HF.out.2.1.other (C := gq) (by have hx := LTS.out; omega) (.bool sq) (.slice mq kq cq)) (And.intro (HF.out.2.2.1.other (C := gq) (by have hx := LTS.out; omega) (.bool sq) (.slice mq kq cq)) (HF.out.2.2.2.keep (BXq.out.keeps (by simp) (by simp) (.bool sq) (.slice mq kq cq))))))
            replace TQ := hide (TQ.out.keep (BXq.out.keeps (by simp) (by simp) (.bool sq) (.slice mq kq cq)))
            replace TR := hide (TR.out.keep (BXq.out.keeps (by simp) (by simp) (.bool sq) (.slice mq kq cq)))
            replace BXr := hide (BXr.out.other (C := gq) (by have hx := LTS.out; omega) (.bool sq) (.slice mq kq cq))
            replace BXq := hide (BXq.out.put (.bool sq) (.slice mq kq cq))
            refine hK _ _ (fun _ => HF'.out) ?_
            clear hK K HF hc0 hf0 hc1 hf1
            have HF := hide HF'.out
            clear HF'
            generalize ((wzr.setCell ⟨gq, 0, none⟩ (.bool sq)).setCell ⟨gq, 1, none⟩ (.slice mq kq cq)) = ws1 at *
            refine Calm.one (i := 11) (l' := #[true, true, true, true, true, true, true, true, true, true, true, true, false]) (by kernel_rfl) rfl rfl rfl fun K hK => ?_
            have hc0 := BXr.out.cell0
            have hc1 := BXr.out.cell1
            have hf0 := BXr.out.free 0
            have hf1 := BXr.out.free 1
            go_simp
            have HF' := hide (And.intro (below_put HF.out.1 (show w.heap.size ≤ gr by have hx := LTS.out; omega) (.bool sr) (.slice mr kr cr)) (And.intro (HF.out.2.1.other (C := gr) (by have hx := LTS.out; omega) (.bool sr) (.slice mr kr cr)) (And.intro (HF.out.2.2.1.other (C := gr) (by have hx := LTS.out; omega) (.bool sr) (.slice mr kr cr)) (HF.out.2.2.2.keep (BXr.out.keeps (by simp) (by simp) (.bool sr) (.slice mr kr cr))))))
            replace TQ := hide (TQ.out.keep (BXr.out.keeps (by simp) (by simp) (.bool sr) (.slice mr kr cr)))
            replace TR := hide (TR.out.keep (BXr.out.keeps (by simp) (by simp) (.bool sr) (.slice mr kr cr)))
            replace BXq := hide (BXq.out.other (C := gr) (by have hx := LTS.out; omega) (.bool sr) (.slice mr kr cr))
            replace BXr := hide (BXr.out.put (.bool sr) (.slice mr kr cr))
            refine hK _ _ (fun _ => HF'.out) ?_
            clear hK K HF hc0 hf0 hc1 hf1
            have HF := hide HF'.out
            clear HF'
            generalize ((ws1.setCell ⟨gr, 0, none⟩ (.bool sr)).setCell ⟨gr, 1, none⟩ (.slice mr kr cr)) = ws2 at *
            refine Calm.take (i := 12) (v := ?_) (a' := ?_) (l' := #[true, true, true, true, true, true, true, true, true, true, true, true, true]) (d := some 8) rfl (by kernel_rfl) (by kernel_rfl) (by kernel_rfl) (by kernel_rfl) (fun _ _ _ h => h) HF.out rfl ?_ rfl rfl ?_ ?_
            rotate_left
            · intro w' hF; clear hF; go_simp; try rfl
            rotate_left
            · simp only [Act.put]; exact rfl
            refine Calm.done (by kernel_rfl) ?_
            go_wp2
            go_meet
            case rel => exact ⟨gq, gr, sq, mq, kq, cq, sr, mr, kr, cr, rfl, rfl, rfl, LTS.out, HF.out.1, HF.out.2.1, HF.out.2.2.1, BXq.out, BXr.out, TQ.out, TR.out⟩
          · go_simp
            have al := below_alloc u2 (.cells #[.bool false, .slice none 0 0] 28)
            have HF' := hide (And.intro (HF.out.1.trans ((al).mono HF.out.1.size)) (And.intro (HF.out.2.1.step (al)) (And.intro (HF.out.2.2.1.step (al)) (HF.out.2.2.2.below (al)))))
            have BXr := hide (Box.new u2 (.bool false) (.slice none 0 0))
            replace TQ := hide (TQ.out.below (al))
            replace TR := hide (TR.out.below (al))
            have LT1r := hide (HF.out.2.1.lt)
            have LT2r := hide (HF.out.2.2.1.lt)
            have GEr := hide (HF.out.1.size)
            refine hK _ _ (fun _ => HF'.out) ?_
            clear hK K HF al
            have HF := hide HF'.out
            clear HF'
            generalize u2.alloc (.cells #[.bool false, .slice none 0 0] 28) = wzr at *
            generalize u2.heap.size = gr at *
            refine Calm.one (i := 8) (l' := #[true, true, true, true, true, true, true, true, true, true, false, false, false]) (by kernel_rfl) rfl rfl rfl fun K hK => ?_
            go_simp
            have al := below_alloc wzr (.cells #[.bool false, .slice none 0 0] 28)
            have HF' := hide (And.intro (HF.out.1.trans ((al).mono HF.out.1.size)) (And.intro (HF.out.2.1.step (al)) (And.intro (HF.out.2.2.1.step (al)) (HF.out.2.2.2.below (al)))))
            have BXq := hide (Box.new wzr (.bool false) (.slice none 0 0))
            replace TQ := hide (TQ.out.below (al))
            replace TR := hide (TR.out.below (al))
            have LTrq := hide (BXr.out.lt)
            replace BXr := hide (BXr.out.step al)
            have LT1q := hide (HF.out.2.1.lt)
            have LT2q := hide (HF.out.2.2.1.lt)
            have GEq := hide (HF.out.1.size)
            refine hK _ _ (fun _ => HF'.out) ?_
            clear hK K HF al
            have HF := hide HF'.out
            clear HF'
            generalize wzr.alloc (.cells #[.bool false, .slice none 0 0] 28) = wzq at *
            generalize wzr.heap.size = gq at *
            refine Calm.one (i := 10) (l' := #[true, true, true, true, true, true, true, true, true, true, true, false, false]) (by kernel_rfl) rfl rfl rfl fun K hK => ?_
            have LTS := hide (And.intro LT1q.out (And.intro LT2q.out (And.intro LT1r.out (And.intro LT2r.out (show gq ≠ gr by first | exact Nat.ne_of_lt LTqr.out | exact Nat.ne_of_gt LTrq.out)))))
            have hc0 := BXq.out.cell0
            have hc1 := BXq.out.cell1
            have hf0 := BXq.out.free 0
            have hf1 := BXq.out.free 1
            go_simp
            have HF' := hide (And.intro (below_put HF.out.1 (show w.heap.size ≤ gq by have hx := LTS.out; omega) (.bool sq) (.slice mq kq cq)) (And.intro (HF.out.2.1.other (C := gq) (by have hx := LTS.out; omega) (.bool sq) (.slice mq kq cq)) (And.intro (HF.out.2.2.1.other (C := gq) (by have hx := LTS.out; omega) (.bool sq) (.slice mq kq cq)) (HF.out.2.2.2.keep (BXq.out.keeps (by simp) (by simp) (.bool sq) (.slice mq kq cq))))))
            replace TQ := hide (TQ.out.keep (BXq.out.keeps (by simp) (by simp) (.bool sq) (.slice mq kq cq)))
            replace TR := hide (TR.out.keep (BXq.out.keeps (by simp) (by simp) (.bool sq) (.slice mq kq cq)))
            replace BXr := hide (BXr.out.other (C := gq) (by have hx := LTS.out; omega) (.bool sq) (.slice mq kq cq))
            replace BXq := hide (BXq.out.put (.bool sq) (.slice mq kq cq))
            refine hK _ _ (fun _ => HF'.out) ?_
            clear hK K HF hc0 hf0 hc1 hf1
            have HF := hide HF'.out
            clear HF'
            generalize ((wzq.setCell ⟨gq, 0, none⟩ (.bool sq)).setCell ⟨gq, 1, none⟩ (.slice mq kq cq)) = ws1 at *
            refine Calm.one (i := 11) (l' := #[true, true, true, true, true, true, true, true, true, true, true, true, false]) (by kernel_rfl) rfl rfl rfl fun K hK => ?_
            have hc0 := BXr.out.cell0
            have hc1 := BXr.out.cell1
            have hf0 := BXr.out.free 0
            have hf1 := BXr.out.free 1
            go_simp
            have HF' := hide (And.intro (below_put HF.out.1 (show w.heap.size ≤ gr by have hx := LTS.out; omega) (.bool sr) (.slice mr kr cr)) (And.intro (HF.out.2.1.other (C := gr) (by have hx := LTS.out; omega) (.bool sr) (.slice mr kr cr)) (And.intro (HF.out.2.2.1.other (C := gr) (by have hx := LTS.out; omega) (.bool sr) (.slice mr kr cr)) (HF.out.2.2.2.keep (BXr.out.keeps (by simp) (by simp) (.bool sr) (.slice mr kr cr))))))
            replace TQ := hide (TQ.out.keep (BXr.out.keeps (by simp) (by simp) (.bool sr) (.slice mr kr cr)))
            replace TR := hide (TR.out.keep (BXr.out.keeps (by simp) (by simp) (.bool sr) (.slice mr kr cr)))
            replace BXq := hide (BXq.out.other (C := gr) (by have hx := LTS.out; omega) (.bool sr) (.slice mr kr cr))
            replace BXr := hide (BXr.out.put (.bool sr) (.slice mr kr cr))
            refine hK _ _ (fun _ => HF'.out) ?_
            clear hK K HF hc0 hf0 hc1 hf1
            have HF := hide HF'.out
            clear HF'
            generalize ((ws1.setCell ⟨gr, 0, none⟩ (.bool sr)).setCell ⟨gr, 1, none⟩ (.slice mr kr cr)) = ws2 at *
            refine Calm.take (i := 12) (v := ?_) (a' := ?_) (l' := #[true, true, true, true, true, true, true, true, true, true, true, true, true]) (d := some 8) rfl (by kernel_rfl) (by kernel_rfl) (by kernel_rfl) (by kernel_rfl) (fun _ _ _ h => h) HF.out rfl ?_ rfl rfl ?_ ?_
            rotate_left
            · intro w' hF; clear hF; go_simp; try rfl
            rotate_left
            · simp only [Act.put]; exact rfl
            refine Calm.done (by kernel_rfl) ?_
            go_wp2
            go_meet
            case rel => exact ⟨gq, gr, sq, mq, kq, cq, sr, mr, kr, cr, rfl, rfl, rfl, LTS.out, HF.out.1, HF.out.2.1, HF.out.2.2.1, BXq.out, BXr.out, TQ.out, TR.out⟩
        · go_simp
          have al := below_alloc u1 (.cells #[.bool false, .slice none 0 0] 28)
          have HF' := hide (And.intro (HF.out.1.trans ((al).mono HF.out.1.size)) (And.intro (HF.out.2.1.step (al)) (And.intro (HF.out.2.2.1.step (al)) (HF.out.2.2.2.below (al)))))
          have BXq := hide (Box.new u1 (.bool false) (.slice none 0 0))
          replace TC := hide (TC.out.below (al))
          have LT1q := hide (HF.out.2.1.lt)
          have LT2q := hide (HF.out.2.2.1.lt)
          have GEq := hide (HF.out.1.size)
          refine hK _ _ (fun _ => HF'.out) ?_
          clear hK K HF al
          have HF := hide HF'.out
          clear HF'
          generalize u1.alloc (.cells #[.bool false, .slice none 0 0] 28) = wzq at *
          generalize u1.heap.size = gq at *
          refine Calm.two (i := 3) (j := 9) (l := #[true, true, true, true, false, false, false, false, true, false, false, false, false]) (l' := #[true, true, true, false, false, false, false, false, true, true, false, false, false]) (by kernel_rfl) rfl rfl rfl rfl rfl rfl (fun K hK => ?_) (fun K hK => ?_)
          · go_simp
            refine (idivmod_zero _ _ x _ HF.out.2.2.2 TC.out).mono ?_
            rintro e u2 ⟨q, r, rfl, n, n', hb⟩
            obtain ⟨sq, mq, kq, cq, rfl, n⟩ := n.cells
            obtain ⟨sr, mr, kr, cr, rfl, n'⟩ := n'.cells
            clear TC
            replace BXq := hide (BXq.out.step hb)
            have HF' := hide (And.intro (HF.out.1.trans ((hb).mono HF.out.1.size)) (And.intro (HF.out.2.1.step (hb)) (And.intro (HF.out.2.2.1.step (hb)) (HF.out.2.2.2.below (hb)))))
            have TQ := hide (n)
            have TR := hide (n')
            refine hK _ _ (fun _ => HF'.out) ?_
            clear hK K HF hb n n'
            have HF := hide HF'.out
            clear HF'
            refine Calm.take (i := 4) (v := ?_) (a' := ?_) (l' := #[true, true, true, true, true, false, false, false, true, false, false, false, false]) (d := some 9) rfl (by kernel_rfl) (by kernel_rfl) (by kernel_rfl) (by kernel_rfl) (fun _ _ _ h => h) HF.out rfl ?_ rfl rfl ?_ ?_
            rotate_left
            · intro w' hF; clear hF; go_simp; try rfl
            rotate_left
            · simp only [Act.put]; exact rfl
            refine Calm.take (i := 5) (v := ?_) (a' := ?_) (l' := #[true, true, true, true, true, true, false, false, true, false, false, false, false]) (d := some 14) rfl (by kernel_rfl) (by kernel_rfl) (by kernel_rfl) (by kernel_rfl) (fun _ _ _ h => h) HF.out rfl ?_ rfl rfl ?_ ?_
            rotate_left
            · intro w' hF; clear hF; go_simp; try rfl
            rotate_left
            · simp only [Act.put]; exact rfl
            refine Calm.take (i := 6) (v := ?_) (a' := ?_) (l' := #[true, true, true, true, true, true, true, false, true, false, false, false, false]) (d := some 15) rfl (by kernel_rfl) (by kernel_rfl) (by kernel_rfl) (by kernel_rfl) (fun _ _ _ h => h) HF.out rfl ?_ rfl rfl ?_ ?_
            rotate_left
            · intro w' hF; clear hF; go_simp; try rfl
            rotate_left
            · simp only [Act.put]; exact rfl
            refine Calm.take (i := 7) (v := ?_) (a' := ?_) (l' := #[true, true, true, true, true, true, true, true, true, false, false, false, false]) (d := some 16) rfl (by kernel_rfl) (by kernel_rfl) (by kernel_rfl) (by kernel_rfl) (fun _ _ _ h => h) HF.out rfl ?_ rfl rfl ?_ ?_
            rotate_left
            · intro w' hF; clear hF; go_simp; try rfl
            rotate_left
            · simp only [Act.put]; exact rfl
            refine Calm.one (i := 9) (l' := #[true, true, true, true, true, true, true, true, true, true, false, false, false]) (by kernel_rfl) rfl rfl rfl fun K hK => ?_
            go_simp
            have al := below_alloc u2 (.cells #[.bool false, .slice none 0 0] 28)
            have HF' := hide (And.intro (HF.out.1.trans ((al).mono HF.out.1.size)) (And.intro (HF.out.2.1.step (al)) (And.intro (HF.out.2.2.1.step (al)) (HF.out.2.2.2.below (al)))))
            have BXr := hide (Box.new u2 (.bool false) (.slice none 0 0))
            replace TQ := hide (TQ.out.below (al))
            replace TR := hide (TR.out.below (al))
            have LTqr := hide (BXq.out.lt)
            replace BXq := hide (BXq.out.step al)
            have LT1r := hide (HF.out.2.1.lt)
            have LT2r := hide (HF.out.2.2.1.lt)
            have GEr := hide (HF.out.1.size)
            refine hK _ _ (fun _ => HF'.out) ?_
            clear hK K HF al
            have HF := hide HF'.out
            clear HF'
            generalize u2.alloc (.cells #[.bool false, .slice none 0 0] 28) = wzr at *
            generalize u2.heap.size = gr at *
            refine Calm.one (i := 10) (l' := #[true, true, true, true, true, true, true, true, true, true, true, false, false]) (by kernel_rfl) rfl rfl rfl fun K hK => ?_
            have LTS := hide (And.intro LT1q.out (And.intro LT2q.out (And.intro LT1r.out (And.intro LT2r.out (show gq ≠ gr by first | exact Nat.ne_of_lt LTqr.out | exact Nat.ne_of_gt LTrq.out)))))
            have hc0 := BXq.out.cell0
            have hc1 := BXq.out.cell1
            have hf0 := BXq.out.free 0
            have hf1 := BXq.out.free 1
            go_simp
            have HF' := hide (And.intro (below_put HF.out.1 (show w.heap.size ≤ gq by have hx := LTS.out; omega) (.bool sq) (.slice mq kq cq)) (And.intro (HF.out.2.1.other (C := gq) (by have hx := LTS.out; omega) (.bool sq) (.slice mq kq cq)) (And.intro (HF.out.2.2.1.other (C := gq) (by have hx := LTS.out; omega) (.bool sq) (.slice mq kq cq)) (HF.out.2.2.2.keep (BXq.out.keeps (by simp) (by simp) (.bool sq) (.slice mq kq cq))))))
            replace TQ := hide (TQ.out.keep (BXq.out.keeps (by simp) (by simp) (.bool sq) (.slice mq kq cq)))
            replace TR := hide (TR.out.keep (BXq.out.keeps (by simp) (by simp) (.bool sq) (.slice mq kq cq)))
            replace BXr := hide (BXr.out.other (C := gq) (by have hx := LTS.out; omega) (.bool sq) (.slice mq kq cq))
            replace BXq := hide (BXq.out.put (.bool sq) (.slice mq kq cq))
            refine hK _ _ (fun _ => HF'.out) ?_
            clear hK K HF hc0 hf0 hc1 hf1
            have HF := hide HF'.out
            clear HF'
            generalize ((wzr.setCell ⟨gq, 0, none⟩ (.bool sq)).setCell ⟨gq, 1, none⟩ (.slice mq kq cq)) = ws1 at *
            refine Calm.one (i := 11) (l' := #[true, true, true, true, true, true, true, true, true, true, true, true, false]) (by kernel_rfl) rfl rfl rfl fun K hK => ?_
            have hc0 := BXr.out.cell0
            have hc1 := BXr.out.cell1
            have hf0 := BXr.out.free 0
            have hf1 := BXr.out.free 1
            go_simp
            have HF' := hide (And.intro (below_put HF.out.1 (show w.heap.size ≤ gr by have hx := LTS.out; omega) (.bool sr) (.slice mr kr cr)) (And.intro (HF.out.2.1.other (C := gr) (by have hx := LTS.out; omega) (.bool sr) (.slice mr kr cr)) (And.intro (HF.out.2.2.1.other (C := gr) (by have hx := LTS.out; omega) (.bool sr) (.slice mr kr cr)) (HF.out.2.2.2.keep (BXr.out.keeps (by simp) (by simp) (.bool sr) (.slice mr kr cr))))))
            replace TQ := hide (TQ.out.keep (BXr.out.keeps (by simp) (by simp) (.bool sr) (.slice mr kr cr)))
            replace TR := hide (TR.out.keep (BXr.out.keeps (by simp) (by simp) (.bool sr) (.slice mr kr cr)))
            replace BXq := hide (BXq.out.other (C := gr) (by have hx := LTS.out; omega) (.bool sr) (.slice mr kr cr))
            replace BXr := hide (BXr.out.put (.bool sr) (.slice mr kr cr))
            refine hK _ _ (fun _ => HF'.out) ?_
            clear hK K HF hc0 hf0 hc1 hf1
            have HF := hide HF'.out
            clear HF'
            generalize ((ws1.setCell ⟨gr, 0, none⟩ (.bool sr)).setCell ⟨gr, 1, none⟩ (.slice mr kr cr)) = ws2 at *
            refine Calm.take (i := 12) (v := ?_) (a' := ?_) (l' := #[true, true, true, true, true, true, true, true, true, true, true, true, true]) (d := some 8) rfl (by kernel_rfl) (by kernel_rfl) (by kernel_rfl) (by kernel_rfl) (fun _ _ _ h => h) HF.out rfl ?_ rfl rfl ?_ ?_
            rotate_left
            · intro w' hF; clear hF; go_simp; try rfl
            rotate_left
            · simp only [Act.put]; exact rfl
            refine Calm.done (by kernel_rfl) ?_
            go_wp2
            go_meet
            case rel => exact ⟨gq, gr, sq, mq, kq, cq, sr, mr, kr, cr, rfl, rfl, rfl, LTS.out, HF.out.1, HF.out.2.1, HF.out.2.2.1, BXq.out, BXr.out, TQ.out, TR.out⟩
          · go_simp
            have al := below_alloc wzq (.cells #[.bool false, .slice none 0 0] 28)
            have HF' := hide (And.intro (HF.out.1.trans ((al).mono HF.out.1.size)) (And.intro (HF.out.2.1.step (al)) (And.intro (HF.out.2.2.1.step (al)) (HF.out.2.2.2.below (al)))))
            have BXr := hide (Box.new wzq (.bool false) (.slice none 0 0))
            replace TC := hide (TC.out.below (al))
            have LTqr := hide (BXq.out.lt)
            replace BXq := hide (BXq.out.step al)
            have LT1r := hide (HF.out.2.1.lt)
            have LT2r := hide (HF.out.2.2.1.lt)
            have GEr := hide (HF.out.1.size)
            refine hK _ _ (fun _ => HF'.out) ?_
            clear hK K HF al
            have HF := hide HF'.out
            clear HF'
            generalize wzq.alloc (.cells #[.bool false, .slice none 0 0] 28) = wzr at *
            generalize wzq.heap.size = gr at *
            refine Calm.one (i := 3) (l' := #[true, true, true, true, false, false, false, false, true, true, false, false, false]) (by kernel_rfl) rfl rfl rfl fun K hK => ?_
            go_simp
            refine (idivmod_zero _ _ x _ HF.out.2.2.2 TC.out).mono ?_
            rintro e u2 ⟨q, r, rfl, n, n', hb⟩
            obtain ⟨sq, mq, kq, cq, rfl, n⟩ := n.cells
            obtain ⟨sr, mr, kr, cr, rfl, n'⟩ := n'.cells
            clear TC
            replace BXq := hide (BXq.out.step hb)
            replace BXr := hide (BXr.out.step hb)
            have HF' := hide (And.intro (HF.out.1.trans ((hb).mono HF.out.1.size)) (And.intro (HF.out.2.1.step (hb)) (And.intro (HF.out.2.2.1.step (hb)) (HF.out.2.2.2.below (hb)))))
            have TQ := hide (n)
            have TR := hide (n')
            refine hK _ _ (fun _ => HF'.out) ?_
            clear hK K HF hb n n'
            have HF := hide HF'.out
            clear HF'
            refine Calm.take (i := 4) (v := ?_) (a' := ?_) (l' := #[true, true, true, true, true, false, false, false, true, true, false, false, false]) (d := some 9) rfl (by kernel_rfl) (by kernel_rfl) (by kernel_rfl) (by kernel_rfl) (fun _ _ _ h => h) HF.out rfl ?_ rfl rfl ?_ ?_
            rotate_left
            · intro w' hF; clear hF; go_simp; try rfl
            rotate_left
            · simp only [Act.put]; exact rfl
            refine Calm.take (i := 5) (v := ?_) (a' := ?_) (l' := #[true, true, true, true, true, true, false, false, true, true, false, false, false]) (d := some 14) rfl (by kernel_rfl) (by kernel_rfl) (by kernel_rfl) (by kernel_rfl) (fun _ _ _ h => h) HF.out rfl ?_ rfl rfl ?_ ?_
            rotate_left
            · intro w' hF; clear hF; go_simp; try rfl
            rotate_left
            · simp only [Act.put]; exact rfl
            refine Calm.take (i := 6) (v := ?_) (a' := ?_) (l' := #[true, true, true, true, true, true, true, false, true, true, false, false, false]) (d := some 15) rfl (by kernel_rfl) (by kernel_rfl) (by kernel_rfl) (by kernel_rfl) (fun _ _ _ h => h) HF.out rfl ?_ rfl rfl ?_ ?_
            rotate_left
            · intro w' hF; clear hF; go_simp; try rfl
            rotate_left
            · simp only [Act.put]; exact rfl
            refine Calm.take (i := 7) (v := ?_) (a' := ?_) (l' := #[true, true, true, true, true, true, true, true, true, true, false, false, false]) (d := some 16) rfl (by kernel_rfl) (by kernel_rfl) (by kernel_rfl) (by kernel_rfl) (fun _ _ _ h => h) HF.out rfl ?_ rfl rfl ?_ ?_
            rotate_left
            · intro w' hF; clear hF; go_simp; try rfl
            rotate_left
            · simp only [Act.put]; exact rfl
            refine Calm.one (i := 10) (l' := #[true, true, true, true, true, true, true, true, true, true, true, false, false]) (by kernel_rfl) rfl rfl rfl fun K hK => ?_
            have LTS := hide (And.intro LT1q.out (And.intro LT2q.out (And.intro LT1r.out (And.intro LT2r.out (show gq ≠ gr by first | exact Nat.ne_of_lt LTqr.out | exact Nat.ne_of_gt LTrq.out)))))
            have hc0 := BXq.out.cell0
            have hc1 := BXq.out.cell1
            have hf0 := BXq.out.free 0
            have hf1 := BXq.out.free 1
            go_simp
            have HF' := hide (And.intro (below_put HF.out.1 (show w.heap.size ≤ gq by have hx := LTS.out; omega) (.bool sq) (.slice mq kq cq)) (And.intro (HF.out.2.1.other (C := gq) (by have hx := LTS.out; omega) (.bool sq) (.slice mq kq cq)) (And.intro (HF.out.2.2.1.other (C := gq) (by have hx := LTS.out; omega) (.bool sq) (.slice mq kq cq)) (HF.out.2.2.2.keep (BXq.out.keeps (by simp) (by simp) (.bool sq) (.slice mq kq cq))))))
            replace TQ := hide (TQ.out.keep (BXq.out.keeps (by simp) (by simp) (.bool sq) (.slice mq kq cq)))
            replace TR := hide (TR.out.keep (BXq.out.keeps (by simp) (by simp) (.bool sq) (.slice mq kq cq)))
            replace BXr := hide (BXr.out.other (C := gq) (by have hx := LTS.out; omega) (.bool sq) (.slice mq kq cq))
            replace BXq := hide (BXq.out.put (.bool sq) (.slice mq kq cq))
            refine hK _ _ (fun _ => HF'.out) ?_
            clear hK K HF hc0 hf0 hc1 hf1
            have HF := hide HF'.out
            clear HF'
            generalize ((u2.setCell ⟨gq, 0, none⟩ (.bool sq)).setCell ⟨gq, 1, none⟩ (.slice mq kq cq)) = ws1 at *
            refine Calm.one (i := 11) (l' := #[true, true, true, true, true, true, true, true, true, true, true, true, false]) (by kernel_rfl) rfl rfl rfl fun K hK => ?_
            have hc0 := BXr.out.cell0
            have hc1 := BXr.out.cell1
            have hf0 := BXr.out.free 0
            have hf1 := BXr.out.free 1
            go_simp
            have HF' := hide (And.intro (below_put HF.out.1 (show w.heap.size ≤ gr by have hx := LTS.out; omega) (.bool sr) (.slice mr kr cr)) (And.intro (HF.out.2.1.other (C := gr) (by have hx := LTS.out; omega) (.bool sr) (.slice mr kr cr)) (And.intro (HF.out.2.2.1.other (C := gr) (by have hx := LTS.out; omega) (.bool sr) (.slice mr kr cr)) (HF.out.2.2.2.keep (BXr.out.keeps (by simp) (by simp) (.bool sr) (.slice mr kr cr))))))
            replace TQ := hide (TQ.out.keep (BXr.out.keeps (by simp) (by simp) (.bool sr) (.slice mr kr cr)))
            replace TR := hide (TR.out.keep (BXr.out.keeps (by simp) (by simp) (.bool sr) (.slice mr kr cr)))
            replace BXq := hide (BXq.out.other (C := gr) (by have hx := LTS.out; omega) (.bool sr) (.slice mr kr cr))
            replace BXr := hide (BXr.out.put (.bool sr) (.slice mr kr cr))
            refine hK _ _ (fun _ => HF'.out) ?_
            clear hK K HF hc0 hf0 hc1 hf1
            have HF := hide HF'.out
            clear HF'
            generalize ((ws1.setCell ⟨gr, 0, none⟩ (.bool sr)).setCell ⟨gr, 1, none⟩ (.slice mr kr cr)) = ws2 at *
            refine Calm.take (i := 12) (v := ?_) (a' := ?_) (l' := #[true, true, true, true, true, true, true, true, true, true, true, true, true]) (d := some 8) rfl (by kernel_rfl) (by kernel_rfl) (by kernel_rfl) (by kernel_rfl) (fun _ _ _ h => h) HF.out rfl ?_ rfl rfl ?_ ?_
            rotate_left
            · intro w' hF; clear hF; go_simp; try rfl
            rotate_left
            · simp only [Act.put]; exact rfl
            refine Calm.done (by kernel_rfl) ?_
            go_wp2
            go_meet
            case rel => exact ⟨gq, gr, sq, mq, kq, cq, sr, mr, kr, cr, rfl, rfl, rfl, LTS.out, HF.out.1, HF.out.2.1, HF.out.2.2.1, BXq.out, BXr.out, TQ.out, TR.out⟩
        · go_simp
          have al := below_alloc u1 (.cells #[.bool false, .slice none 0 0] 28)
          have HF' := hide (And.intro (HF.out.1.trans ((al).mono HF.out.1.size)) (And.intro (HF.out.2.1.step (al)) (And.intro (HF.out.2.2.1.step (al)) (HF.out.2.2.2.below (al)))))
          have BXr := hide (Box.new u1 (.bool false) (.slice none 0 0))
          replace TC := hide (TC.out.below (al))
          have LT1r := hide (HF.out.2.1.lt)
          have LT2r := hide (HF.out.2.2.1.lt)
          have GEr := hide (HF.out.1.size)
          refine hK _ _ (fun _ => HF'.out) ?_
          clear hK K HF al
          have HF := hide HF'.out
          clear HF'
          generalize u1.alloc (.cells #[.bool false, .slice none 0 0] 28) = wzr at *
          generalize u1.heap.size = gr at *
          refine Calm.two (i := 3) (j := 8) (l := #[true, true, true, true, false, false, false, false, false, true, false, false, false]) (l' := #[true, true, true, false, false, false, false, false, true, true, false, false, false]) (by kernel_rfl) rfl rfl rfl rfl rfl rfl (fun K hK => ?_) (fun K hK => ?_)
          · go_simp
            refine (idivmod_zero _ _ x _ HF.out.2.2.2 TC.out).mono ?_
            rintro e u2 ⟨q, r, rfl, n, n', hb⟩
            obtain ⟨sq, mq, kq, cq, rfl, n⟩ := n.cells
            obtain ⟨sr, mr, kr, cr, rfl, n'⟩ := n'.cells
            clear TC
            replace BXr := hide (BXr.out.step hb)
            have HF' := hide (And.intro (HF.out.1.trans ((hb).mono HF.out.1.size)) (And.intro (HF.out.2.1.step (hb)) (And.intro (HF.out.2.2.1.step (hb)) (HF.out.2.2.2.below (hb)))))
            have TQ := hide (n)
            have TR := hide (n')
            refine hK _ _ (fun _ => HF'.out) ?_
            clear hK K HF hb n n'
            have HF := hide HF'.out
            clear HF'
            refine Calm.take (i := 4) (v := ?_) (a' := ?_) (l' := #[true, true, true, true, true, false, false, false, false, true, false, false, false]) (d := some 9) rfl (by kernel_rfl) (by kernel_rfl) (by kernel_rfl) (by kernel_rfl) (fun _ _ _ h => h) HF.out rfl ?_ rfl rfl ?_ ?_
            rotate_left
            · intro w' hF; clear hF; go_simp; try rfl
            rotate_left
            · simp only [Act.put]; exact rfl
            refine Calm.take (i := 5) (v := ?_) (a' := ?_) (l' := #[true, true, true, true, true, true, false, false, false, true, false, false, false]) (d := some 14) rfl (by kernel_rfl) (by kernel_rfl) (by kernel_rfl) (by kernel_rfl) (fun _ _ _ h => h) HF.out rfl ?_ rfl rfl ?_ ?_
            rotate_left
            · intro w' hF; clear hF; go_simp; try rfl
            rotate_left
            · simp only [Act.put]; exact rfl
            refine Calm.take (i := 6) (v := ?_) (a' := ?_) (l' := #[true, true, true, true, true, true, true, false, false, true, false, false, false]) (d := some 15) rfl (by kernel_rfl) (by kernel_rfl) (by kernel_rfl) (by kernel_rfl) (fun _ _ _ h => h) HF.out rfl ?_ rfl rfl ?_ ?_
            rotate_left
            · intro w' hF; clear hF; go_simp; try rfl
            rotate_left
            · simp only [Act.put]; exact rfl
            refine Calm.take (i := 7) (v := ?_) (a' := ?_) (l' := #[true, true, true, true, true, true, true, true, false, true, false, false, false]) (d := some 16) rfl (by kernel_rfl) (by kernel_rfl) (by kernel_rfl) (by kernel_rfl) (fun _ _ _ h => h) HF.out rfl ?_ rfl rfl ?_ ?_
            rotate_left
            · intro w' hF; clear hF; go_simp; try rfl
            rotate_left
            · simp only [Act.put]; exact rfl
            refine Calm.one (i := 8) (l' := #[true, true, true, true, true, true, true, true, true, true, false, false, false]) (by kernel_rfl) rfl rfl rfl fun K hK => ?_
            go_simp
            have al := below_alloc u2 (.cells #[.bool false, .slice none 0 0] 28)
            have HF' := hide (And.intro (HF.out.1.trans ((al).mono HF.out.1.size)) (And.intro (HF.out.2.1.step (al)) (And.intro (HF.out.2.2.1.step (al)) (HF.out.2.2.2.below (al)))))
            have BXq := hide (Box.new u2 (.bool false) (.slice none 0 0))
            replace TQ := hide (TQ.out.below (al))
            replace TR := hide (TR.out.below (al))
            have LTrq := hide (BXr.out.lt)
            replace BXr := hide (BXr.out.step al)
            have LT1q := hide (HF.out.2.1.lt)
            have LT2q := hide (HF.out.2.2.1.lt)
            have GEq := hide (HF.out.1.size)
            refine hK _ _ (fun _ => HF'.out) ?_
            clear hK K HF al
            have HF := hide HF'.out
            clear HF'
            generalize u2.alloc (.cells #[.bool false, .slice none 0 0] 28) = wzq at *
            generalize u2.heap.size = gq at *
            refine Calm.one (i := 10) (l' := #[true, true, true, true, true, true, true, true, true, true, true, false, false]) (by kernel_rfl) rfl rfl rfl fun K hK => ?_
            have LTS := hide (And.intro LT1q.out (And.intro LT2q.out (And.intro LT1r.out (And.intro LT2r.out (show gq ≠ gr by first | exact Nat.ne_of_lt LTqr.out | exact Nat.ne_of_gt LTrq.out)))))
            have hc0 := BXq.out.cell0
            have hc1 := BXq.out.cell1
            have hf0 := BXq.out.free 0
            have hf1 := BXq.out.free 1
            go_simp
            have HF' := hide (And.intro (below_put HF.out.1 (show w.heap.size ≤ gq by have hx := LTS.out; omega) (.bool sq) (.slice mq kq cq)) (And.intro (HF.out.2.1.other (C := gq) (by have hx := LTS.out; omega) (.bool sq) (.slice mq kq cq)) (And.intro (HF.out.2.2.1.other (C := gq) (by have hx := LTS.out; omega) (.bool sq) (.slice mq kq cq)) (HF.out.2.2.2.keep (BXq.out.keeps (by simp) (by simp) (.bool sq) (.slice mq kq cq))))))
            replace TQ := hide (TQ.out.keep (BXq.out.keeps (by simp) (by simp) (.bool sq) (.slice mq kq cq)))
            replace TR := hide (TR.out.keep (BXq.out.keeps (by simp) (by simp) (.bool sq) (.slice mq kq cq)))
            replace BXr := hide (BXr.out.other (C := gq) (by have hx := LTS.out; omega) (.bool sq) (.slice mq kq cq))
            replace BXq := hide (BXq.out.put (.bool sq) (.slice mq kq cq))
            refine hK _ _ (fun _ => HF'.out) ?_
            clear hK K HF hc0 hf0 hc1 hf1
            have HF := hide HF'.out
            clear HF'
            generalize ((wzq.setCell ⟨gq, 0, none⟩ (.bool sq)).setCell ⟨gq, 1, none⟩ (.slice mq kq cq)) = ws1 at *
            refine Calm.one (i := 11) (l' := #[true, true, true, true, true, true, true, true, true, true, true, true, false]) (by kernel_rfl) rfl rfl rfl fun K hK => ?_
            have hc0 := BXr.out.cell0
            have hc1 := BXr.out.cell1
            have hf0 := BXr.out.free 0
            have hf1 := BXr.out.free 1
            go_simp
            have HF' := hide (And.intro (below_put HF.out.1 (show w.heap.size ≤ gr by have hx := LTS.out; omega) (.bool sr) (.slice mr kr cr)) (And.intro (HF.out.2.1.other (C := gr) (by have hx := LTS.out; omega) (.bool sr) (.slice mr kr cr)) (And.intro (HF.out.2.2.1.other (C := gr) (by have hx := LTS.out; omega) (.bool sr) (.slice mr kr cr)) (HF.out.2.2.2.keep (BXr.out.keeps (by simp) (by simp) (.bool sr) (.slice mr kr cr))))))
            replace TQ := hide (TQ.out.keep (BXr.out.keeps (by simp) (by simp) (.bool sr) (.slice mr kr cr)))
            replace TR := hide (TR.out.keep (BXr.out.keeps (by simp) (by simp) (.bool sr) (.slice mr kr cr)))
            replace BXq := hide (BXq.out.other (C := gr) (by have hx := LTS.out; omega) (.bool sr) (.slice mr kr cr))
            replace BXr := hide (BXr.out.put (.bool sr) (.slice mr kr cr))
            refine hK _ _ (fun _ => HF'.out) ?_
            clear hK K HF hc0 hf0 hc1 hf1
            have HF := hide HF'.out
            clear HF'
            generalize ((ws1.setCell ⟨gr, 0, none⟩ (.bool sr)).setCell ⟨gr, 1, none⟩ (.slice mr kr cr)) = ws2 at *
            refine Calm.take (i := 12) (v := ?_) (a' := ?_) (l' := #[true, true, true, true, true, true, true, true, true, true, true, true, true]) (d := some 8) rfl (by kernel_rfl) (by kernel_rfl) (by kernel_rfl) (by kernel_rfl) (fun _ _ _ h => h) HF.out rfl ?_ rfl rfl ?_ ?_
            rotate_left
            · intro w' hF; clear hF; go_simp; try rfl
            rotate_left
            · simp only [Act.put]; exact rfl
            refine Calm.done (by kernel_rfl) ?_
            go_wp2
            go_meet
            case rel => exact ⟨gq, gr, sq, mq, kq, cq, sr, mr, kr, cr, rfl, rfl, rfl, LTS.out, HF.out.1, HF.out.2.1, HF.out.2.2.1, BXq.out, BXr.out, TQ.out, TR.out⟩
          · go_simp
            have al := below_alloc wzr (.cells #[.bool false, .slice none 0 0] 28)
            have HF' := hide (And.intro (HF.out.1.trans ((al).mono HF.out.1.size)) (And.intro (HF.out.2.1.step (al)) (And.intro (HF.out.2.2.1.step (al)) (HF.out.2.2.2.below (al)))))
            have BXq := hide (Box.new wzr (.bool false) (.slice none 0 0))
            replace TC := hide (TC.out.below (al))
            have LTrq := hide (BXr.out.lt)
            replace BXr := hide (BXr.out.step al)
            have LT1q := hide (HF.out.2.1.lt)
            have LT2q := hide (HF.out.2.2.1.lt)
            have GEq := hide (HF.out.1.size)
            refine hK _ _ (fun _ => HF'.out) ?_
            clear hK K HF al
            have HF := hide HF'.out
            clear HF'
            generalize wzr.alloc (.cells #[.bool false, .slice none 0 0] 28) = wzq at *
            generalize wzr.heap.size = gq at *
            refine Calm.one (i := 3) (l' := #[true, true, true, true, false, false, false, false, true, true, false, false, false]) (by kernel_rfl) rfl rfl rfl fun K hK => ?_
            go_simp
            refine (idivmod_zero _ _ x _ HF.out.2.2.2 TC.out).mono ?_
            rintro e u2 ⟨q, r, rfl, n, n', hb⟩
            obtain ⟨sq, mq, kq, cq, rfl, n⟩ := n.cells
            obtain ⟨sr, mr, kr, cr, rfl, n'⟩ := n'.cells
            clear TC
            replace BXr := hide (BXr.out.step hb)
            replace BXq := hide (BXq.out.step hb)
            have HF' := hide (And.intro (HF.out.1.trans ((hb).mono HF.out.1.size)) (And.intro (HF.out.2.1.step (hb)) (And.intro (HF.out.2.2.1.step (hb)) (HF.out.2.2.2.below (hb)))))
            have TQ := hide (n)
            have TR := hide (n')
            refine hK _ _ (fun _ => HF'.out) ?_
            clear hK K HF hb n n'
            have HF := hide HF'.out
            clear HF'
            refine Calm.take (i := 4) (v := ?_) (a' := ?_) (l' := #[true, true, true, true, true, false, false, false, true, true, false, false, false]) (d := some 9) rfl (by kernel_rfl) (by kernel_rfl) (by kernel_rfl) (by kernel_rfl) (fun _ _ _ h => h) HF.out rfl ?_ rfl rfl ?_ ?_
            rotate_left
            · intro w' hF; clear hF; go_simp; try rfl
            rotate_left
            · simp only [Act.put]; exact rfl
            refine Calm.take (i := 5) (v := ?_) (a' := ?_) (l' := #[true, true, true, true, true, true, false, false, true, true, false, false, false]) (d := some 14) rfl (by kernel_rfl) (by kernel_rfl) (by kernel_rfl) (by kernel_rfl) (fun _ _ _ h => h) HF.out rfl ?_ rfl rfl ?_ ?_
            rotate_left
            · intro w' hF; clear hF; go_simp; try rfl
            rotate_left
            · simp only [Act.put]; exact rfl
            refine Calm.take (i := 6) (v := ?_) (a' := ?_) (l' := #[true, true, true, true, true, true, true, false, true, true, false, false, false]) (d := some 15) rfl (by kernel_rfl) (by kernel_rfl) (by kernel_rfl) (by kernel_rfl) (fun _ _ _ h => h) HF.out rfl ?_ rfl rfl ?_ ?_
            rotate_left
            · intro w' hF; clear hF; go_simp; try rfl
            rotate_left
            · simp only [Act.put]; exact rfl
            refine Calm.take (i := 7) (v := ?_) (a' := ?_) (l' := #[true, true, true, true, true, true, true, true, true, true, false, false, false]) (d := some 16) rfl (by kernel_rfl) (by kernel_rfl) (by kernel_rfl) (by kernel_rfl) (fun _ _ _ h => h) HF.out rfl ?_ rfl rfl ?_ ?_
            rotate_left
            · intro w' hF; clear hF; go_simp; try rfl
            rotate_left
            · simp only [Act.put]; exact rfl
            refine Calm.one (i := 10) (l' := #[true, true, true, true, true, true, true, true, true, true, true, false, false]) (by kernel_rfl) rfl rfl rfl fun K hK => ?_
            have LTS := hide (And.intro LT1q.out (And.intro LT2q.out (And.intro LT1r.out (And.intro LT2r.out (show gq ≠ gr by first | exact Nat.ne_of_lt LTqr.out | exact Nat.ne_of_gt LTrq.out)))))
            have hc0 := BXq.out.cell0
            have hc1 := BXq.out.cell1
            have hf0 := BXq.out.free 0
            have hf1 := BXq.out.free 1
            go_simp
            have HF' := hide (And.intro (below_put HF.out.1 (show w.heap.size ≤ gq by have hx := LTS.out; omega) (.bool sq) (.slice mq kq cq)) (And.intro (HF.out.2.1.other (C := gq) (by have hx := LTS.out; omega) (.bool sq) (.slice mq kq cq)) (And.intro (HF.out.2.2.1.other (C := gq) (by have hx := LTS.out; omega) (.bool sq) (.slice mq kq cq)) (HF.out.2.2.2.keep (BXq.out.keeps (by simp) (by simp) (.bool sq) (.slice mq kq cq))))))
            replace TQ := hide (TQ.out.keep (BXq.out.keeps (by simp) (by simp) (.bool sq) (.slice mq kq cq)))
            replace TR := hide (TR.out.keep (BXq.out.keeps (by simp) (by simp) (.bool sq) (.slice mq kq cq)))
            replace BXr := hide (BXr.out.other (C := gq) (by have hx := LTS.out; omega) (.bool sq) (.slice mq kq cq))
            replace BXq := hide (BXq.out.put (.bool sq) (.slice mq kq cq))
            refine hK _ _ (fun _ => HF'.out) ?_
            clear hK K HF hc0 hf0 hc1 hf1
            have HF := hide HF'.out
            clear HF'
            generalize ((u2.setCell ⟨gq, 0, none⟩ (.bool sq)).setCell ⟨gq, 1, none⟩ (.slice mq kq cq)) = ws1 at *
            refine Calm.one (i := 11) (l' := #[true, true, true, true, true, true, true, true, true, true, true, true, false]) (by kernel_rfl) rfl rfl rfl fun K hK => ?_
            have hc0 := BXr.out.cell0
            have hc1 := BXr.out.cell1
            have hf0 := BXr.out.free 0
            have hf1 := BXr.out.free 1
            go_simp
            have HF' := hide (And.intro (below_put HF.out.1 (show w.heap.size ≤ gr by have hx := LTS.out; omega) (.bool sr) (.slice mr kr cr)) (And.intro (HF.out.2.1.other (C := gr) (by have hx := LTS.out; omega) (.bool sr) (.slice mr kr cr)) (And.intro (HF.out.2.2.1.other (C := gr) (by have hx := LTS.out; omega) (.bool sr) (.slice mr kr cr)) (HF.out.2.2.2.keep (BXr.out.keeps (by simp) (by simp) (.bool sr) (.slice mr kr cr))))))
            replace TQ := hide (TQ.out.keep (BXr.out.keeps (by simp) (by simp) (.bool sr) (.slice mr kr cr)))
            replace TR := hide (TR.out.keep (BXr.out.keeps (by simp) (by simp) (.bool sr) (.slice mr kr cr)))
            replace BXq := hide (BXq.out.other (C := gr) (by have hx := LTS.out; omega) (.bool sr) (.slice mr kr cr))
            replace BXr := hide (BXr.out.put (.bool sr) (.slice mr kr cr))
            refine hK _ _ (fun _ => HF'.out) ?_
            clear hK K HF hc0 hf0 hc1 hf1
            have HF := hide HF'.out
            clear HF'
            generalize ((ws1.setCell ⟨gr, 0, none⟩ (.bool sr)).setCell ⟨gr, 1, none⟩ (.slice mr kr cr)) = ws2 at *
            refine Calm.take (i := 12) (v := ?_) (a' := ?_) (l' := #[true, true, true, true, true, true, true, true, true, true, true, true, true]) (d := some 8) rfl (by kernel_rfl) (by kernel_rfl) (by kernel_rfl) (by kernel_rfl) (fun _ _ _ h => h) HF.out rfl ?_ rfl rfl ?_ ?_
            rotate_left
            · intro w' hF; clear hF; go_simp; try rfl
            rotate_left
            · simp only [Act.put]; exact rfl
            refine Calm.done (by kernel_rfl) ?_
            go_wp2
            go_meet
            case rel => exact ⟨gq, gr, sq, mq, kq, cq, sr, mr, kr, cr, rfl, rfl, rfl, LTS.out, HF.out.1, HF.out.2.1, HF.out.2.2.1, BXq.out, BXr.out, TQ.out, TR.out⟩
      · go_simp
        have al := below_alloc w0d (.cells #[.bool false, .slice none 0 0] 28)
        have HF' := hide (And.intro (HF.out.1.trans ((al).mono HF.out.1.size)) (And.intro (HF.out.2.1.step (al)) (And.intro (HF.out.2.2.1.step (al)) (HF.out.2.2.2.below (al)))))
        have BXq := hide (Box.new w0d (.bool false) (.slice none 0 0))
        have LT1q := hide (HF.out.2.1.lt)
        have LT2q := hide (HF.out.2.2.1.lt)
        have GEq := hide (HF.out.1.size)
        refine hK _ _ (fun _ => HF'.out) ?_
        clear hK K HF al
        have HF := hide HF'.out
        clear HF'
        generalize w0d.alloc (.cells #[.bool false, .slice none 0 0] 28) = wzq at *
        generalize w0d.heap.size = gq at *
        refine Calm.two (i := 2) (j := 9) (l := #[true, true, true, false, false, false, false, false, true, false, false, false, false]) (l' := #[true, true, false, false, false, false, false, false, true, true, false, false, false]) (by kernel_rfl) rfl rfl rfl rfl rfl rfl (fun K hK => ?_) (fun K hK => ?_)
        · go_simp
          refine (iof_any 0 _ (by first | exact HL.out | decide) (by first | exact HH.out | decide)).mono ?_
          rintro e u1 ⟨v, rfl, n, hb⟩
          replace BXq := hide (BXq.out.step hb)
          have HF' := hide (And.intro (HF.out.1.trans ((hb).mono HF.out.1.size)) (And.intro (HF.out.2.1.step (hb)) (And.intro (HF.out.2.2.1.step (hb)) (HF.out.2.2.2.below (hb)))))
          have TC := hide (n)
          refine hK _ _ (fun _ => HF'.out) ?_
          clear hK K HF hb n
          have HF := hide HF'.out
          clear HF'
          refine Calm.two (i := 3) (j := 9) (l := #[true, true, true, true, false, false, false, false, true, false, false, false, false]) (l' := #[true, true, true, false, false, false, false, false, true, true, false, false, false]) (by kernel_rfl) rfl rfl rfl rfl rfl rfl (fun K hK => ?_) (fun K hK => ?_)
          · go_simp
            refine (idivmod_zero _ _ x _ HF.out.2.2.2 TC.out).mono ?_
            rintro e u2 ⟨q, r, rfl, n, n', hb⟩
            obtain ⟨sq, mq, kq, cq, rfl, n⟩ := n.cells
            obtain ⟨sr, mr, kr, cr, rfl, n'⟩ := n'.cells
            clear TC
            replace BXq := hide (BXq.out.step hb)
            have HF' := hide (And.intro (HF.out.1.trans ((hb).mono HF.out.1.size)) (And.intro (HF.out.2.1.step (hb)) (And.intro (HF.out.2.2.1.step (hb)) (HF.out.2.2.2.below (hb)))))
            have TQ := hide (n)
            have TR := hide (n')
            refine hK _ _ (fun _ => HF'.out) ?_
            clear hK K HF hb n n'
            have HF := hide HF'.out
            clear HF'
            refine Calm.take (i := 4) (v := ?_) (a' := ?_) (l' := #[true, true, true, true, true, false, false, false, true, false, false, false, false]) (d := some 9) rfl (by kernel_rfl) (by kernel_rfl) (by kernel_rfl) (by kernel_rfl) (fun _ _ _ h => h) HF.out rfl ?_ rfl rfl ?_ ?_
            rotate_left
            · intro w' hF; clear hF; go_simp; try rfl
            rotate_left
            · simp only [Act.put]; exact rfl
            refine Calm.take (i := 5) (v := ?_) (a' := ?_) (l' := #[true, true, true, true, true, true, false, false, true, false, false, false, false]) (d := some 14) rfl (by kernel_rfl) (by kernel_rfl) (by kernel_rfl) (by kernel_rfl) (fun _ _ _ h => h) HF.out rfl ?_ rfl rfl ?_ ?_
            rotate_left
            · intro w' hF; clear hF; go_simp; try rfl
            rotate_left
            · simp only [Act.put]; exact rfl
            refine Calm.take (i := 6) (v := ?_) (a' := ?_) (l' := #[true, true, true, true, true, true, true, false, true, false, false, false, false]) (d := some 15) rfl (by kernel_rfl) (by kernel_rfl) (by kernel_rfl) (by kernel_rfl) (fun _ _ _ h => h) HF.out rfl ?_ rfl rfl ?_ ?_
            rotate_left
            · intro w' hF; clear hF; go_simp; try rfl
            rotate_left
            · simp only [Act.put]; exact rfl
            refine Calm.take (i := 7) (v := ?_) (a' := ?_) (l' := #[true, true, true, true, true, true, true, true, true, false, false, false, false]) (d := some 16) rfl (by kernel_rfl) (by kernel_rfl) (by kernel_rfl) (by kernel_rfl) (fun _ _ _ h => h) HF.out rfl ?_ rfl rfl ?_ ?_
            rotate_left
            · intro w' hF; clear hF; go_simp; try rfl
            rotate_left
            · simp only [Act.put]; exact rfl
            refine Calm.one (i := 9) (l' := #[true, true, true, true, true, true, true, true, true, true, false, false, false]) (by kernel_rfl) rfl rfl rfl fun K hK => ?_
            go_simp
            have al := below_alloc u2 (.cells #[.bool false, .slice none 0 0] 28)
            have HF' := hide (And.intro (HF.out.1.trans ((al).mono HF.out.1.size)) (And.intro (HF.out.2.1.step (al)) (And.intro (HF.out.2.2.1.step (al)) (HF.out.2.2.2.below (al)))))
            have BXr := hide (Box.new u2 (.bool false) (.slice none 0 0))
            replace TQ := hide (TQ.out.below (al))
            replace TR := hide (TR.out.below (al))
            have LTqr := hide (BXq.out.lt)
            replace BXq := hide (BXq.out.step al)
            have LT1r := hide (HF.out.2.1.lt)
            have LT2r := hide (HF.out.2.2.1.lt)
            have GEr := hide (HF.out.1.size)
            refine hK _ _ (fun _ => HF'.out) ?_
            clear hK K HF al
            have HF := hide HF'.out
            clear HF'
            generalize u2.alloc (.cells #[.bool false, .slice none 0 0] 28) = wzr at *
            generalize u2.heap.size = gr at *
            refine Calm.one (i := 10) (l' := #[true, true, true, true, true, true, true, true, true, true, true, false, false]) (by kernel_rfl) rfl rfl rfl fun K hK => ?_
            have LTS := hide (And.intro LT1q.out (And.intro LT2q.out (And.intro LT1r.out (And.intro LT2r.out (show gq ≠ gr by first | exact Nat.ne_of_lt LTqr.out | exact Nat.ne_of_gt LTrq.out)))))
            have hc0 := BXq.out.cell0
            have hc1 := BXq.out.cell1
            have hf0 := BXq.out.free 0
            have hf1 := BXq.out.free 1
            go_simp
            have HF' := hide (And.intro (below_put HF.out.1 (show w.heap.size ≤ gq by have hx := LTS.out; omega) (.bool sq) (.slice mq kq cq)) (And.intro (HF.out.2.1.other (C := gq) (by have hx := LTS.out; omega) (.bool sq) (.slice mq kq cq)) (And.intro (HF.out.2.2.1.other (C := gq) (by have hx := LTS.out; omega) (.bool sq) (.slice mq kq cq)) (HF.out.2.2.2.keep (BXq.out.keeps (by simp) (by simp) (.bool sq) (.slice mq kq cq))))))
            replace TQ := hide (TQ.out.keep (BXq.out.keeps (by simp) (by simp) (.bool sq) (.slice mq kq cq)))
            replace TR := hide (TR.out.keep (BXq.out.keeps (by simp) (by simp) (.bool sq) (.slice mq kq cq)))
            replace BXr := hide (BXr.out.other (C := gq) (by have hx := LTS.out; omega) (.bool sq) (.slice mq kq cq))
            replace BXq := hide (BXq.out.put (.bool sq) (.slice mq kq cq))
            refine hK _ _ (fun _ => HF'.out) ?_
            clear hK K HF hc0 hf0 hc1 hf1
            have HF := hide HF'.out
            clear HF'
            generalize ((wzr.setCell ⟨gq, 0, none⟩ (.bool sq)).setCell ⟨gq, 1, none⟩ (.slice mq kq cq)) = ws1 at *
            refine Calm.one (i := 11) (l' := #[true, true, true, true, true, true, true, true, true, true, true, true, false]) (by kernel_rfl) rfl rfl rfl fun K hK => ?_
            have hc0 := BXr.out.cell0
            have hc1 := BXr.out.cell1
            have hf0 := BXr.out.free 0
            have hf1 := BXr.out.free 1
            go_simp
            have HF' := hide (And.intro (below_put HF.out.1 (show w.heap.size ≤ gr by have hx := LTS.out; omega) (.bool sr) (.slice mr kr cr)) (And.intro (HF.out.2.1.other (C := gr) (by have hx := LTS.out; omega) (.bool sr) (.slice mr kr cr)) (And.intro (HF.out.2.2.1.other (C := gr) (by have hx := LTS.out; omega) (.bool sr) (.slice mr kr cr)) (HF.out.2.2.2.keep (BXr.out.keeps (by simp) (by simp) (.bool sr) (.slice mr kr cr))))))
            replace TQ := hide (TQ.out.keep (BXr.out.keeps (by simp) (by simp) (.bool sr) (.slice mr kr cr)))
            replace TR := hide (TR.out.keep (BXr.out.keeps (by simp) (by simp) (.bool sr) (.slice mr kr cr)))
            replace BXq := hide (BXq.out.other (C := gr) (by have hx := LTS.out; omega) (.bool sr) (.slice mr kr cr))
            replace BXr := hide (BXr.out.put (.bool sr) (.slice mr kr cr))
            refine hK _ _ (fun _ => HF'.out) ?_
            clear hK K HF hc0 hf0 hc1 hf1
            have HF := hide HF'.out
            clear HF'
            generalize ((ws1.setCell ⟨gr, 0, none⟩ (.bool sr)).setCell ⟨gr, 1, none⟩ (.slice mr kr cr)) = ws2 at *
            refine Calm.take (i := 12) (v := ?_) (a' := ?_) (l' := #[true, true, true, true, true, true, true, true, true, true, true, true, true]) (d := some 8) rfl (by kernel_rfl) (by kernel_rfl) (by kernel_rfl) (by kernel_rfl) (fun _ _ _ h => h) HF.out rfl ?_ rfl rfl ?_ ?_
            rotate_left
            · intro w' hF; clear hF; go_simp; try rfl
            rotate_left
            · simp only [Act.put]; exact rfl
            refine Calm.done (by kernel_rfl) ?_
            go_wp2
            go_meet
            case rel => exact ⟨gq, gr, sq, mq, kq, cq, sr, mr, kr, cr, rfl, rfl, rfl, LTS.out, HF.out.1, HF.out.2.1, HF.out.2.2.1, BXq.out, BXr.out, TQ.out, TR.out⟩
          · go_simp
            have al := below_alloc u1 (.cells #[.bool false, .slice none 0 0] 28)
            have HF' := hide (And.intro (HF.out.1.trans ((al).mono HF.out.1.size)) (And.intro (HF.out.2.1.step (al)) (And.intro (HF.out.2.2.1.step (al)) (HF.out.2.2.2.below (al)))))
            have BXr := hide (Box.new u1 (.bool false) (.slice none 0 0))
            replace TC := hide (TC.out.below (al))
            have LTqr := hide (BXq.out.lt)
            replace BXq := hide (BXq.out.step al)
            have LT1r := hide (HF.out.2.1.lt)
            have LT2r := hide (HF.out.2.2.1.lt)
            have GEr := hide (HF.out.1.size)
            refine hK _ _ (fun _ => HF'.out) ?_
            clear hK K HF al
            have HF := hide HF'.out
            clear HF'
            generalize u1.alloc (.cells #[.bool false, .slice none 0 0] 28) = wzr at *
            generalize u1.heap.size = gr at *
            refine Calm.one (i := 3) (l' := #[true, true, true, true, false, false, false, false, true, true, false, false, false]) (by kernel_rfl) rfl rfl rfl fun K hK => ?_
            go_simp
            refine (idivmod_zero _ _ x _ HF.out.2.2.2 TC.out).mono ?_
            rintro e u2 ⟨q, r, rfl, n, n', hb⟩
            obtain ⟨sq, mq, kq, cq, rfl, n⟩ := n.cells
            obtain ⟨sr, mr, kr, cr, rfl, n'⟩ := n'.cells
            clear TC
            replace BXq := hide (BXq.out.step hb)
            replace BXr := hide (BXr.out.step hb)
            have HF' := hide (And.intro (HF.out.1.trans ((hb).mono HF.out.1.size)) (And.intro (HF.out.2.1.step (hb)) (And.intro (HF.out.2.2.1.step (hb)) (HF.out.2.2.2.below (hb)))))
            have TQ := hide (n)
            have TR := hide (n')
            refine hK _ _ (fun _ => HF'.out) ?_
            clear hK K HF hb n n'
            have HF := hide HF'.out
            clear HF'
            refine Calm.take (i := 4) (v := ?_) (a' := ?_) (l' := #[true, true, true, true, true, false, false, false, true, true, false, false, false]) (d := some 9) rfl (by kernel_rfl) (by kernel_rfl) (by kernel_rfl) (by kernel_rfl) (fun _ _ _ h => h) HF.out rfl ?_ rfl rfl ?_ ?_
            rotate_left
            · intro w' hF; clear hF; go_simp; try rfl
            rotate_left
            · simp only [Act.put]; exact rfl
            refine Calm.take (i := 5) (v := ?_) (a' := ?_) (l' := #[true, true, true, true, true, true, false, false, true, true, false, false, false]) (d := some 14) rfl (by kernel_rfl) (by kernel_rfl) (by kernel_rfl) (by kernel_rfl) (fun _ _ _ h => h) HF.out rfl ?_ rfl rfl ?_ ?_
            rotate_left
            · intro w' hF; clear hF; go_simp; try rfl
            rotate_left
            · simp only [Act.put]; exact rfl
            refine Calm.take (i := 6) (v := ?_) (a' := ?_) (l' := #[true, true, true, true, true, true, true, false, true, true, false, false, false]) (d := some 15) rfl (by kernel_rfl) (by kernel_rfl) (by kernel_rfl) (by kernel_rfl) (fun _ _ _ h => h) HF.out rfl ?_ rfl rfl ?_ ?_
            rotate_left
            · intro w' hF; clear hF; go_simp; try rfl
            rotate_left
            · simp only [Act.put]; exact rfl
            refine Calm.take (i := 7) (v := ?_) (a' := ?_) (l' := #[true, true, true, true, true, true, true, true, true, true, false, false, false]) (d := some 16) rfl (by kernel_rfl) (by kernel_rfl) (by kernel_rfl) (by kernel_rfl) (fun _ _ _ h => h) HF.out rfl ?_ rfl rfl ?_ ?_
            rotate_left
            · intro w' hF; clear hF; go_simp; try rfl
            rotate_left
            · simp only [Act.put]; exact rfl
            refine Calm.one (i := 10) (l' := #[true, true, true, true, true, true, true, true, true, true, true, false, false]) (by kernel_rfl) rfl rfl rfl fun K hK => ?_
            have LTS := hide (And.intro LT1q.out (And.intro LT2q.out (And.intro LT1r.out (And.intro LT2r.out (show gq ≠ gr by first | exact Nat.ne_of_lt LTqr.out | exact Nat.ne_of_gt LTrq.out)))))
            have hc0 := BXq.out.cell0
            have hc1 := BXq.out.cell1
            have hf0 := BXq.out.free 0
            have hf1 := BXq.out.free 1
            go_simp
            have HF' := hide (And.intro (below_put HF.out.1 (show w.heap.size ≤ gq by have hx := LTS.out; omega) (.bool sq) (.slice mq kq cq)) (And.intro (HF.out.2.1.other (C := gq) (by have hx := LTS.out; omega) (.bool sq) (.slice mq kq cq)) (And.intro (HF.out.2.2.1.other (C := gq) (by have hx := LTS.out; omega) (.bool sq) (.slice mq kq cq)) (HF.out.2.2.2.keep (BXq.out.keeps (by simp) (by simp) (.bool sq) (.slice mq kq cq))))))
            replace TQ := hide (TQ.out.keep (BXq.out.keeps (by simp) (by simp) (.bool sq) (.slice mq kq cq)))
            replace TR := hide (TR.out.keep (BXq.out.keeps (by simp) (by simp) (.bool sq) (.slice mq kq cq)))
            replace BXr := hide (BXr.out.other (C := gq) (by have hx := LTS.out; omega) (.bool sq) (.slice mq kq cq))
            replace BXq := hide (BXq.out.put (.bool sq) (.slice mq kq cq))
            refine hK _ _ (fun _ => HF'.out) ?_
            clear hK K HF hc0 hf0 hc1 hf1
            have HF := hide HF'.out
            clear HF'
            generalize ((u2.setCell ⟨gq, 0, none⟩ (.bool sq)).setCell ⟨gq, 1, none⟩ (.slice mq kq cq)) = ws1 at *
            refine Calm.one (i := 11) (l' := #[true, true, true, true, true, true, true, true, true, true, true, true, false]) (by kernel_rfl) rfl rfl rfl fun K hK => ?_
            have hc0 := BXr.out.cell0
            have hc1 := BXr.out.cell1
            have hf0 := BXr.out.free 0
            have hf1 := BXr.out.free 1
            go_simp
            have HF' := hide (And.intro (below_put HF.out.1 (show w.heap.size ≤ gr by have hx := LTS.out; omega) (.bool sr) (.slice mr kr cr)) (And.intro (HF.out.2.1.other (C := gr) (by have hx := LTS.out; omega) (.bool sr) (.slice mr kr cr)) (And.intro (HF.out.2.2.1.other (C := gr) (by have hx := LTS.out; omega) (.bool sr) (.slice mr kr cr)) (HF.out.2.2.2.keep (BXr.out.keeps (by simp) (by simp) (.bool sr) (.slice mr kr cr))))))
            replace TQ := hide (TQ.out.keep (BXr.out.keeps (by simp) (by simp) (.bool sr) (.slice mr kr cr)))
            replace TR := hide (TR.out.keep (BXr.out.keeps (by simp) (by simp) (.bool sr) (.slice mr kr cr)))
            replace BXq := hide (BXq.out.other (C := gr) (by have hx := LTS.out; omega) (.bool sr) (.slice mr kr cr))
            replace BXr := hide (BXr.out.put (.bool sr) (.slice mr kr cr))
            refine hK _ _ (fun _ => HF'.out) ?_
            clear hK K HF hc0 hf0 hc1 hf1
            have HF := hide HF'.out
            clear HF'
            generalize ((ws1.setCell ⟨gr, 0, none⟩ (.bool sr)).setCell ⟨gr, 1, none⟩ (.slice mr kr cr)) = ws2 at *
            refine Calm.take (i := 12) (v := ?_) (a' := ?_) (l' := #[true, true, true, true, true, true, true, true, true, true, true, true, true]) (d := some 8) rfl (by kernel_rfl) (by kernel_rfl) (by kernel_rfl) (by kernel_rfl) (fun _ _ _ h => h) HF.out rfl ?_ rfl rfl ?_ ?_
            rotate_left
            · intro w' hF; clear hF; go_simp; try rfl
            rotate_left
            · simp only [Act.put]; exact rfl
            refine Calm.done (by kernel_rfl) ?_
            go_wp2
            go_meet
            case rel => exact ⟨gq, gr, sq, mq, kq, cq, sr, mr, kr, cr, rfl, rfl, rfl, LTS.out, HF.out.1, HF.out.2.1, HF.out.2.2.1, BXq.out, BXr.out, TQ.out, TR.out⟩
        · go_simp
          have al := below_alloc wzq (.cells #[.bool false, .slice none 0 0] 28)
          have HF' := hide (And.intro (HF.out.1.trans ((al).mono HF.out.1.size)) (And.intro (HF.out.2.1.step (al)) (And.intro (HF.out.2.2.1.step (al)) (HF.out.2.2.2.below (al)))))
          have BXr := hide (Box.new wzq (.bool false) (.slice none 0 0))
          have LTqr := hide (BXq.out.lt)
          replace BXq := hide (BXq.out.step al)
          have LT1r := hide (HF.out.2.1.lt)
          have LT2r := hide (HF.out.2.2.1.lt)
          have GEr := hide (HF.out.1.size)
          refine hK _ _ (fun _ => HF'.out) ?_
          clear hK K HF al
          have HF := hide HF'.out
          clear HF'
          generalize wzq.alloc (.cells #[.bool false, .slice none 0 0] 28) = wzr at *
          generalize wzq.heap.size = gr at *
          refine Calm.one (i := 2) (l' := #[true, true, true, false, false, false, false, false, true, true, false, false, false]) (by kernel_rfl) rfl rfl rfl fun K hK => ?_
          go_simp
          refine (iof_any 0 _ (by first | exact HL.out | decide) (by first | exact HH.out | decide)).mono ?_
          rintro e u1 ⟨v, rfl, n, hb⟩
          replace BXq := hide (BXq.out.step hb)
          replace BXr := hide (BXr.out.step hb)
          have HF' := hide (And.intro (HF.out.1.trans ((hb).mono HF.out.1.size)) (And.intro (HF.out.2.1.step (hb)) (And.intro (HF.out.2.2.1.step (hb)) (HF.out.2.2.2.below (hb)))))
          have TC := hide (n)
          refine hK _ _ (fun _ => HF'.out) ?_
          clear hK K HF hb n
          have HF := hide HF'.out
          clear HF'
          refine Calm.one (i := 3) (l' := #[true, true, true, true, false, false, false, false, true, true, false, false, false]) (by kernel_rfl) rfl rfl rfl fun K hK => ?_
          go_simp
          refine (idivmod_zero _ _ x _ HF.out.2.2.2 TC.out).mono ?_
          rintro e u2 ⟨q, r, rfl, n, n', hb⟩
          obtain ⟨sq, mq, kq, cq, rfl, n⟩ := n.cells
          obtain ⟨sr, mr, kr, cr, rfl, n'⟩ := n'.cells
          clear TC
          replace BXq := hide (BXq.out.step hb)
          replace BXr := hide (BXr.out.step hb)
          have HF' := hide (And.intro (HF.out.1.trans ((hb).mono HF.out.1.size)) (And.intro (HF.out.2.1.step (hb)) (And.intro (HF.out.2.2.1.step (hb)) (HF.out.2.2.2.below (hb)))))
          have TQ := hide (n)
          have TR := hide (n')
          refine hK _ _ (fun _ => HF'.out) ?_
          clear hK K HF hb n n'
          have HF := hide HF'.out
          clear HF'
          refine Calm.take (i := 4) (v := ?_) (a' := ?_) (l' := #[true, true, true, true, true, false, false, false, true, true, false, false, false]) (d := some 9) rfl (by kernel_rfl) (by kernel_rfl) (by kernel_rfl) (by kernel_rfl) (fun _ _ _ h => h) HF.out rfl ?_ rfl rfl ?_ ?_
          rotate_left
          · intro w' hF; clear hF; go_simp; try rfl
          rotate_left
          · simp only [Act.put]; exact rfl
          refine Calm.take (i := 5) (v := ?_) (a' := ?_) (l' := #[true, true, true, true, true, true, false, false, true, true, false, false, false]) (d := some 14) rfl (by kernel_rfl) (by kernel_rfl) (by kernel_rfl) (by kernel_rfl) (fun _ _ _ h => h) HF.out rfl ?_ rfl rfl ?_ ?_
          rotate_left
          · intro w' hF; clear hF; go_simp; try rfl
          rotate_left
          · simp only [Act.put]; exact rfl
          refine Calm.take (i := 6) (v := ?_) (a' := ?_) (l' := #[true, true, true, true, true, true, true, false, true, true, false, false, false]) (d := some 15) rfl (by kernel_rfl) (by kernel_rfl) (by kernel_rfl) (by kernel_rfl) (fun _ _ _ h => h) HF.out rfl ?_ rfl rfl ?_ ?_
          rotate_left
          · intro w' hF; clear hF; go_simp; try rfl
          rotate_left
          · simp only [Act.put]; exact rfl
          refine Calm.take (i := 7) (v := ?_) (a' := ?_) (l' := #[true, true, true, true, true, true, true, true, true, true, false, false, false]) (d := some 16) rfl (by kernel_rfl) (by kernel_rfl) (by kernel_rfl) (by kernel_rfl) (fun _ _ _ h => h) HF.out rfl ?_ rfl rfl ?_ ?_
          rotate_left
          · intro w' hF; clear hF; go_simp; try rfl
          rotate_left
          · simp only [Act.put]; exact rfl
          refine Calm.one (i := 10) (l' := #[true, true, true, true, true, true, true, true, true, true, true, false, false]) (by kernel_rfl) rfl rfl rfl fun K hK => ?_
          have LTS := hide (And.intro LT1q.out (And.intro LT2q.out (And.intro LT1r.out (And.intro LT2r.out (show gq ≠ gr by first | exact Nat.ne_of_lt LTqr.out | exact Nat.ne_of_gt LTrq.out)))))
          have hc0 := BXq.out.cell0
          have hc1 := BXq.out.cell1
          have hf0 := BXq.out.free 0
          have hf1 := BXq.out.free 1
          go_simp
          have HF' := hide (And.intro (below_put HF.out.1 (show w.heap.size ≤ gq by have hx := LTS.out; omega) (.bool sq) (.slice mq kq cq)) (And.intro (HF.out.2.1.other (C := gq) (by have hx := LTS.out; omega) (.bool sq) (.slice mq kq cq)) (And.intro (HF.out.2.2.1.other (C := gq) (by have hx := LTS.out; omega) (.bool sq) (.slice mq kq cq)) (HF.out.2.2.2.keep (BXq.out.keeps (by simp) (by simp) (.bool sq) (.slice mq kq cq))))))
          replace TQ := hide (TQ.out.keep (BXq.out.keeps (by simp) (by simp) (.bool sq) (.slice mq kq cq)))
          replace TR := hide (TR.out.keep (BXq.out.keeps (by simp) (by simp) (.bool sq) (.slice mq kq cq)))
          replace BXr := hide (BXr.out.other (C := gq) (by have hx := LTS.out; omega) (.bool sq) (.slice mq kq cq))
          replace BXq := hide (BXq.out.put (.bool sq) (.slice mq kq cq))
          refine hK _ _ (fun _ => HF'.out) ?_
          clear hK K HF hc0 hf0 hc1 hf1
          have HF := hide HF'.out
          clear HF'
          generalize ((u2.setCell ⟨gq, 0, none⟩ (.bool sq)).setCell ⟨gq, 1, none⟩ (.slice mq kq cq)) = ws1 at *
          refine Calm.one (i := 11) (l' := #[true, true, true, true, true, true, true, true, true, true, true, true, false]) (by kernel_rfl) rfl rfl rfl fun K hK => ?_
          have hc0 := BXr.out.cell0
          have hc1 := BXr.out.cell1
          have hf0 := BXr.out.free 0
          have hf1 := BXr.out.free 1
          go_simp
          have HF' := hide (And.intro (below_put HF.out.1 (show w.heap.size ≤ gr by have hx := LTS.out; omega) (.bool sr) (.slice mr kr cr)) (And.intro (HF.out.2.1.other (C := gr) (by have hx := LTS.out; omega) (.bool sr) (.slice mr kr cr)) (And.intro (HF.out.2.2.1.other (C := gr) (by have hx := LTS.out; omega) (.bool sr) (.slice mr kr cr)) (HF.out.2.2.2.keep (BXr.out.keeps (by simp) (by simp) (.bool sr) (.slice mr kr cr))))))
          replace TQ := hide (TQ.out.keep (BXr.out.keeps (by simp) (by simp) (.bool sr) (.slice mr kr cr)))
          replace TR := hide (TR.out.keep (BXr.out.keeps (by simp) (by simp) (.bool sr) (.slice mr kr cr)))
          replace BXq := hide (BXq.out.other (C := gr) (by have hx := LTS.out; omega) (.bool sr) (.slice mr kr cr))
          replace BXr := hide (BXr.out.put (.bool sr) (.slice mr kr cr))
          refine hK _ _ (fun _ => HF'.out) ?_
          clear hK K HF hc0 hf0 hc1 hf1
          have HF := hide HF'.out
          clear HF'
          generalize ((ws1.setCell ⟨gr, 0, none⟩ (.bool sr)).setCell ⟨gr, 1, none⟩ (.slice mr kr cr)) = ws2 at *
          refine Calm.take (i := 12) (v := ?_) (a' := ?_) (l' := #[true, true, true, true, true, true, true, true, true, true, true, true, true]) (d := some 8) rfl (by kernel_rfl) (by kernel_rfl) (by kernel_rfl) (by kernel_rfl) (fun _ _ _ h => h) HF.out rfl ?_ rfl rfl ?_ ?_
          rotate_left
          · intro w' hF; clear hF; go_simp; try rfl
          rotate_left
          · simp only [Act.put]; exact rfl
          refine Calm.done (by kernel_rfl) ?_
          go_wp2
          go_meet
          case rel => exact ⟨gq, gr, sq, mq, kq, cq, sr, mr, kr, cr, rfl, rfl, rfl, LTS.out, HF.out.1, HF.out.2.1, HF.out.2.2.1, BXq.out, BXr.out, TQ.out, TR.out⟩
      · go_simp
        have al := below_alloc w0d (.cells #[.bool false, .slice none 0 0] 28)
        have HF' := hide (And.intro (HF.out.1.trans ((al).mono HF.out.1.size)) (And.intro (HF.out.2.1.step (al)) (And.intro (HF.out.2.2.1.step (al)) (HF.out.2.2.2.below (al)))))
        have BXr := hide (Box.new w0d (.bool false) (.slice none 0 0))
        have LT1r := hide (HF.out.2.1.lt)
        have LT2r := hide (HF.out.2.2.1.lt)
        have GEr := hide (HF.out.1.size)
        refine hK _ _ (fun _ => HF'.out) ?_
        clear hK K HF al
        have HF := hide HF'.out
        clear HF'
        generalize w0d.alloc (.cells #[.bool false, .slice none 0 0] 28) = wzr at *
        generalize w0d.heap.size = gr at *
        refine Calm.two (i := 2) (j := 8) (l := #[true, true, true, false, false, false, false, false, false, true, false, false, false]) (l' := #[true, true, false, false, false, false, false, false, true, true, false, false, false]) (by kernel_rfl) rfl rfl rfl rfl rfl rfl (fun K hK => ?_) (fun K hK => ?_)
        · go_simp
          refine (iof_any 0 _ (by first | exact HL.out | decide) (by first | exact HH.out | decide)).mono ?_
          rintro e u1 ⟨v, rfl, n, hb⟩
          replace BXr := hide (BXr.out.step hb)
          have HF' := hide (And.intro (HF.out.1.trans ((hb).mono HF.out.1.size)) (And.intro (HF.out.2.1.step (hb)) (And.intro (HF.out.2.2.1.step (hb)) (HF.out.2.2.2.below (hb)))))
          have TC := hide (n)
          refine hK _ _ (fun _ => HF'.out) ?_
          clear hK K HF hb n
          have HF := hide HF'.out
          clear HF'
          refine Calm.two (i := 3) (j := 8) (l := #[true, true, true, true, false, false, false, false, false, true, false, false, false]) (l' := #[true, true, true, false, false, false, false, false, true, true, false, false, false]) (by kernel_rfl) rfl rfl rfl rfl rfl rfl (fun K hK => ?_) (fun K hK => ?_)
          · go_simp
            refine (idivmod_zero _ _ x _ HF.out.2.2.2 TC.out).mono ?_
            rintro e u2 ⟨q, r, rfl, n, n', hb⟩
            obtain ⟨sq, mq, kq, cq, rfl, n⟩ := n.cells
            obtain ⟨sr, mr, kr, cr, rfl, n'⟩ := n'.cells
            clear TC
            replace BXr := hide (BXr.out.step hb)
            have HF' := hide (And.intro (HF.out.1.trans ((hb).mono HF.out.1.size)) (And.intro (HF.out.2.1.step (hb)) (And.intro (HF.out.2.2.1.step (hb)) (HF.out.2.2.2.below (hb)))))
            have TQ := hide (n)
            have TR := hide (n')
            refine hK _ _ (fun _ => HF'.out) ?_
            clear hK K HF hb n n'
            have HF := hide HF'.out
            clear HF'
            refine Calm.take (i := 4) (v := ?_) (a' := ?_) (l' := #[true, true, true, true, true, false, false, false, false, true, false, false, false]) (d := some 9) rfl (by kernel_rfl) (by kernel_rfl) (by kernel_rfl) (by kernel_rfl) (fun _ _ _ h => h) HF.out rfl ?_ rfl rfl ?_ ?_
            rotate_left
            · intro w' hF; clear hF; go_simp; try rfl
            rotate_left
            · simp only [Act.put]; exact rfl
            refine Calm.take (i := 5) (v := ?_) (a' := ?_) (l' := #[true, true, true, true, true, true, false, false, false, true, false, false, false]) (d := some 14) rfl (by kernel_rfl) (by kernel_rfl) (by kernel_rfl) (by kernel_rfl) (fun _ _ _ h => h) HF.out rfl ?_ rfl rfl ?_ ?_
            rotate_left
            · intro w' hF; clear hF; go_simp; try rfl
            rotate_left
            · simp only [Act.put]; exact rfl
            refine Calm.take (i := 6) (v := ?_) (a' := ?_) (l' := #[true, true, true, true, true, true, true, false, false, true, false, false, false]) (d := some 15) rfl (by kernel_rfl) (by kernel_rfl) (by kernel_rfl) (by kernel_rfl) (fun _ _ _ h => h) HF.out rfl ?_ rfl rfl ?_ ?_
            rotate_left
            · intro w' hF; clear hF; go_simp; try rfl
            rotate_left
            · simp only [Act.put]; exact rfl
            refine Calm.take (i := 7) (v := ?_) (a' := ?_) (l' := #[true, true, true, true, true, true, true, true, false, true, false, false, false]) (d := some 16) rfl (by kernel_rfl) (by kernel_rfl) (by kernel_rfl) (by kernel_rfl) (fun _ _ _ h => h) HF.out rfl ?_ rfl rfl ?_ ?_
            rotate_left
            · intro w' hF; clear hF; go_simp; try rfl
            rotate_left
            · simp only [Act.put]; exact rfl
            refine Calm.one (i := 8) (l' := #[true, true, true, true, true, true, true, true, true, true, false, false, false]) (by kernel_rfl) rfl rfl rfl fun K hK => ?_
            go_simp
            have al := below_alloc u2 (.cells #[.bool false, .slice none 0 0] 28)
            have HF' := hide (And.intro (HF.out.1.trans ((al).mono HF.out.1.size)) (And.intro (HF.out.2.1.step (al)) (And.intro (HF.out.2.2.1.step (al)) (HF.out.2.2.2.below (al)))))
            have BXq := hide (Box.new u2 (.bool false) (.slice none 0 0))
            replace TQ := hide (TQ.out.below (al))
            replace TR := hide (TR.out.below (al))
            have LTrq := hide (BXr.out.lt)
            replace BXr := hide (BXr.out.step al)
            have LT1q := hide (HF.out.2.1.lt)
            have LT2q := hide (HF.out.2.2.1.lt)
            have GEq := hide (HF.out.1.size)
            refine hK _ _ (fun _ => HF'.out) ?_
            clear hK K HF al
            have HF := hide HF'.out
            clear HF'
            generalize u2.alloc (.cells #[.bool false, .slice none 0 0] 28) = wzq at *
            generalize u2.heap.size = gq at *
            refine Calm.one (i := 10) (l' := #[true, true, true, true, true, true, true, true, true, true, true, false, false]) (by kernel_rfl) rfl rfl rfl fun K hK => ?_
            have LTS := hide (And.intro LT1q.out (And.intro LT2q.out (And.intro LT1r.out (And.intro LT2r.out (show gq ≠ gr by first | exact Nat.ne_of_lt LTqr.out | exact Nat.ne_of_gt LTrq.out)))))
            have hc0 := BXq.out.cell0
            have hc1 := BXq.out.cell1
            have hf0 := BXq.out.free 0
            have hf1 := BXq.out.free 1
            go_simp
            have HF' := hide (And.intro (below_put HF.out.1 (show w.heap.size ≤ gq by have hx := LTS.out; omega) (.bool sq) (.slice mq kq cq)) (And.intro (HF.out.2.1.other (C := gq) (by have hx := LTS.out; omega) (.bool sq) (.slice mq kq cq)) (And.intro (HF.out.2.2.1.other (C := gq) (by have hx := LTS.out; omega) (.bool sq) (.slice mq kq cq)) (HF.out.2.2.2.keep (BXq.out.keeps (by simp) (by simp) (.bool sq) (.slice mq kq cq))))))
            replace TQ := hide (TQ.out.keep (BXq.out.keeps (by simp) (by simp) (.bool sq) (.slice mq kq cq)))
            replace TR := hide (TR.out.keep (BXq.out.keeps (by simp) (by simp) (.bool sq) (.slice mq kq cq)))
            replace BXr := hide (BXr.out.other (C := gq) (by have hx := LTS.out; omega) (.bool sq) (.slice mq kq cq))
            replace BXq := hide (BXq.out.put (.bool sq) (.slice mq kq cq))
            refine hK _ _ (fun _ => HF'.out) ?_
            clear hK K HF hc0 hf0 hc1 hf1
            have HF := hide HF'.out
            clear HF'
            generalize ((wzq.setCell ⟨gq, 0, none⟩ (.bool sq)).setCell ⟨gq, 1, none⟩ (.slice mq kq cq)) = ws1 at *
            refine Calm.one (i := 11) (l' := #[true, true, true, true, true, true, true, true, true, true, true, true, false]) (by kernel_rfl) rfl rfl rfl fun K hK => ?_
            have hc0 := BXr.out.cell0
            have hc1 := BXr.out.cell1
            have hf0 := BXr.out.free 0
            have hf1 := BXr.out.free 1
            go_simp
            have HF' := hide (And.intro (below_put HF.out.1 (show w.heap.size ≤ gr by have hx := LTS.out; omega) (.bool sr) (.slice mr kr cr)) (And.intro (HF.out.2.1.other (C := gr) (by have hx := LTS.out; omega) (.bool sr) (.slice mr kr cr)) (And.intro (HF.out.2.2.1.other (C := gr) (by have hx := LTS.out; omega) (.bool sr) (.slice mr kr cr)) (HF.out.2.2.2.keep (BXr.out.keeps (by simp) (by simp) (.bool sr) (.slice mr kr cr))))))
            replace TQ := hide (TQ.out.keep (BXr.out.keeps (by simp) (by simp) (.bool sr) (.slice mr kr cr)))
            replace TR := hide (TR.out.keep (BXr.out.keeps (by simp) (by simp) (.bool sr) (.slice mr kr cr)))
            replace BXq := hide (BXq.out.other (C := gr) (by have hx := LTS.out; omega) (.bool sr) (.slice mr kr cr))
            replace BXr := hide (BXr.out.put (.bool sr) (.slice mr kr cr))
            refine hK _ _ (fun _ => HF'.out) ?_
            clear hK K HF hc0 hf0 hc1 hf1
            have HF := hide HF'.out
            clear HF'
            generalize ((ws1.setCell ⟨gr, 0, none⟩ (.bool sr)).setCell ⟨gr, 1, none⟩ (.slice mr kr cr)) = ws2 at *
            refine Calm.take (i := 12) (v := ?_) (a' := ?_) (l' := #[true, true, true, true, true, true, true, true, true, true, true, true, true]) (d := some 8) rfl (by kernel_rfl) (by kernel_rfl) (by kernel_rfl) (by kernel_rfl) (fun _ _ _ h => h) HF.out rfl ?_ rfl rfl ?_ ?_
            rotate_left
            · intro w' hF; clear hF; go_simp; try rfl
            rotate_left
            · simp only [Act.put]; exact rfl
            refine Calm.done (by kernel_rfl) ?_
            go_wp2
            go_meet
            case rel => exact ⟨gq, gr, sq, mq, kq, cq, sr, mr, kr, cr, rfl, rfl, rfl, LTS.out, HF.out.1, HF.out.2.1, HF.out.2.2.1, BXq.out, BXr.out, TQ.out, TR.out⟩
          · go_simp
            have al := below_alloc u1 (.cells #[.bool false, .slice none 0 0] 28)
            have HF' := hide (And.intro (HF.out.1.trans ((al).mono HF.out.1.size)) (And.intro (HF.out.2.1.step (al)) (And.intro (HF.out.2.2.1.step (al)) (HF.out.2.2.2.below (al)))))
            have BXq := hide (Box.new u1 (.bool false) (.slice none 0 0))
            replace TC := hide (TC.out.below (al))
            have LTrq := hide (BXr.out.lt)
            replace BXr := hide (BXr.out.step al)
            have LT1q := hide (HF.out.2.1.lt)
            have LT2q := hide (HF.out.2.2.1.lt)
            have GEq := hide (HF.out.1.size)
            refine hK _ _ (fun _ => HF'.out) ?_
            clear hK K HF al
            have HF := hide HF'.out
            clear HF'
            generalize u1.alloc (.cells #[.bool false, .slice none 0 0] 28) = wzq at *
            generalize u1.heap.size = gq at *
            refine Calm.one (i := 3) (l' := #[true, true, true, true, false, false, false, false, true, true, false, false, false]) (by kernel_rfl) rfl rfl rfl fun K hK => ?_
            go_simp
            refine (idivmod_zero _ _ x _ HF.out.2.2.2 TC.out).mono ?_
            rintro e u2 ⟨q, r, rfl, n, n', hb⟩
            obtain ⟨sq, mq, kq, cq, rfl, n⟩ := n.cells
            obtain ⟨sr, mr, kr, cr, rfl, n'⟩ := n'.cells
            clear TC
            replace BXr := hide (BXr.out.step hb)
            replace BXq := hide (BXq.out.step hb)
            have HF' := hide (And.intro (HF.out.1.trans ((hb).mono HF.out.1.size)) (And.intro (HF.out.2.1.step (hb)) (And.intro (HF.out.2.2.1.step (hb)) (HF.out.2.2.2.below (hb)))))
            have TQ := hide (n)
            have TR := hide (n')
            refine hK _ _ (fun _ => HF'.out) ?_
            clear hK K HF hb n n'
            have HF := hide HF'.out
            clear HF'
            refine Calm.take (i := 4) (v := ?_) (a' := ?_) (l' := #[true, true, true, true, true, false, false, false, true, true, false, false, false]) (d := some 9) rfl (by kernel_rfl) (by kernel_rfl) (by kernel_rfl) (by kernel_rfl) (fun _ _ _ h => h) HF.out rfl ?_ rfl rfl ?_ ?_
            rotate_left
            · intro w' hF; clear hF; go_simp; try rfl
            rotate_left
            · simp only [Act.put]; exact rfl
            refine Calm.take (i := 5) (v := ?_) (a' := ?_) (l' := #[true, true, true, true, true, true, false, false, true, true, false, false, false]) (d := some 14) rfl (by kernel_rfl) (by kernel_rfl) (by kernel_rfl) (by kernel_rfl) (fun _ _ _ h => h) HF.out rfl ?_ rfl rfl ?_ ?_
            rotate_left
            · intro w' hF; clear hF; go_simp; try rfl
            rotate_left
            · simp only [Act.put]; exact rfl
            refine Calm.take (i := 6) (v := ?_) (a' := ?_) (l' := #[true, true, true, true, true, true, true, false, true, true, false, false, false]) (d := some 15) rfl (by kernel_rfl) (by kernel_rfl) (by kernel_rfl) (by kernel_rfl) (fun _ _ _ h => h) HF.out rfl ?_ rfl rfl ?_ ?_
            rotate_left
            · intro w' hF; clear hF; go_simp; try rfl
            rotate_left
            · simp only [Act.put]; exact rfl
            refine Calm.take (i := 7) (v := ?_) (a' := ?_) (l' := #[true, true, true, true, true, true, true, true, true, true, false, false, false]) (d := some 16) rfl (by kernel_rfl) (by kernel_rfl) (by kernel_rfl) (by kernel_rfl) (fun _ _ _ h => h) HF.out rfl ?_ rfl rfl ?_ ?_
            rotate_left
            · intro w' hF; clear hF; go_simp; try rfl
            rotate_left
            · simp only [Act.put]; exact rfl
            refine Calm.one (i := 10) (l' := #[true, true, true, true, true, true, true, true, true, true, true, false, false]) (by kernel_rfl) rfl rfl rfl fun K hK => ?_
            have LTS := hide (And.intro LT1q.out (And.intro LT2q.out (And.intro LT1r.out (And.intro LT2r.out (show gq ≠ gr by first | exact Nat.ne_of_lt LTqr.out | exact Nat.ne_of_gt LTrq.out)))))
            have hc0 := BXq.out.cell0
            have hc1 := BXq.out.cell1
            have hf0 := BXq.out.free 0
            have hf1 := BXq.out.free 1
            go_simp
            have HF' := hide (And.intro (below_put HF.out.1 (show w.heap.size ≤ gq by have hx := LTS.out; omega) (.bool sq) (.slice mq kq cq)) (And.intro (HF.out.2.1.other (C := gq) (by have hx := LTS.out; omega) (.bool sq) (.slice mq kq cq)) (And.intro (HF.out.2.2.1.other (C := gq) (by have hx := LTS.out; omega) (.bool sq) (.slice mq kq cq)) (HF.out.2.2.2.keep (BXq.out.keeps (by simp) (by simp) (.bool sq) (.slice mq kq cq))))))
            replace TQ := hide (TQ.out.keep (BXq.out.keeps (by simp) (by simp) (.bool sq) (.slice mq kq cq)))
            replace TR := hide (TR.out.keep (BXq.out.keeps (by simp) (by simp) (.bool sq) (.slice mq kq cq)))
            replace BXr := hide (BXr.out.other (C := gq) (by have hx := LTS.out; omega) (.bool sq) (.slice mq kq cq))
            replace BXq := hide (BXq.out.put (.bool sq) (.slice mq kq cq))
            refine hK _ _ (fun _ => HF'.out) ?_
            clear hK K HF hc0 hf0 hc1 hf1
            have HF := hide HF'.out
            clear HF'
            generalize ((u2.setCell ⟨gq, 0, none⟩ (.bool sq)).setCell ⟨gq, 1, none⟩ (.slice mq kq cq)) = ws1 at *
            refine Calm.one (i := 11) (l' := #[true, true, true, true, true, true, true, true, true, true, true, true, false]) (by kernel_rfl) rfl rfl rfl fun K hK => ?_
            have hc0 := BXr.out.cell0
            have hc1 := BXr.out.cell1
            have hf0 := BXr.out.free 0
            have hf1 := BXr.out.free 1
            go_simp
            have HF' := hide (And.intro (below_put HF.out.1 (show w.heap.size ≤ gr by have hx := LTS.out; omega) (.bool sr) (.slice mr kr cr)) (And.intro (HF.out.2.1.other (C := gr) (by have hx := LTS.out; omega) (.bool sr) (.slice mr kr cr)) (And.intro (HF.out.2.2.1.other (C := gr) (by have hx := LTS.out; omega) (.bool sr) (.slice mr kr cr)) (HF.out.2.2.2.keep (BXr.out.keeps (by simp) (by simp) (.bool sr) (.slice mr kr cr))))))
            replace TQ := hide (TQ.out.keep (BXr.out.keeps (by simp) (by simp) (.bool sr) (.slice mr kr cr)))
            replace TR := hide (TR.out.keep (BXr.out.keeps (by simp) (by simp) (.bool sr) (.slice mr kr cr)))
            replace BXq := hide (BXq.out.other (C := gr) (by have hx := LTS.out; omega) (.bool sr) (.slice mr kr cr))
            replace BXr := hide (BXr.out.put (.bool sr) (.slice mr kr cr))
            refine hK _ _ (fun _ => HF'.out) ?_
            clear hK K HF hc0 hf0 hc1 hf1
            have HF := hide HF'.out
            clear HF'
            generalize ((ws1.setCell ⟨gr, 0, none⟩ (.bool sr)).setCell ⟨gr, 1, none⟩ (.slice mr kr cr)) = ws2 at *
            refine Calm.take (i := 12) (v := ?_) (a' := ?_) (l' := #[true, true, true, true, true, true, true, true, true, true, true, true, true]) (d := some 8) rfl (by kernel_rfl) (by kernel_rfl) (by kernel_rfl) (by kernel_rfl) (fun _ _ _ h => h) HF.out rfl ?_ rfl rfl ?_ ?_
            rotate_left
            · intro w' hF; clear hF; go_simp; try rfl
            rotate_left
            · simp only [Act.put]; exact rfl
            refine Calm.done (by kernel_rfl) ?_
            go_wp2
            go_meet
            case rel => exact ⟨gq, gr, sq, mq, kq, cq, sr, mr, kr, cr, rfl, rfl, rfl, LTS.out, HF.out.1, HF.out.2.1, HF.out.2.2.1, BXq.out, BXr.out, TQ.out, TR.out⟩
        · go_simp
          have al := below_alloc wzr (.cells #[.bool false, .slice none 0 0] 28)
          have HF' := hide (And.intro (HF.out.1.trans ((al).mono HF.out.1.size)) (And.intro (HF.out.2.1.step (al)) (And.intro (HF.out.2.2.1.step (al)) (HF.out.2.2.2.below (al)))))
          have BXq := hide (Box.new wzr (.bool false) (.slice none 0 0))
          have LTrq := hide (BXr.out.lt)
          replace BXr := hide (BXr.out.step al)
          have LT1q := hide (HF.out.2.1.lt)
          have LT2q := hide (HF.out.2.2.1.lt)
          have GEq := hide (HF.out.1.size)
          refine hK _ _ (fun _ => HF'.out) ?_
          clear hK K HF al
          have HF := hide HF'.out
          clear HF'
          generalize wzr.alloc (.cells #[.bool false, .slice none 0 0] 28) = wzq at *
          generalize wzr.heap.size = gq at *
          refine Calm.one (i := 2) (l' := #[true, true, true, false, false, false, false, false, true, true, false, false, false]) (by kernel_rfl) rfl rfl rfl fun K hK => ?_
          go_simp
          refine (iof_any 0 _ (by first | exact HL.out | decide) (by first | exact HH.out | decide)).mono ?_
          rintro e u1 ⟨v, rfl, n, hb⟩
          replace BXr := hide (BXr.out.step hb)
          replace BXq := hide (BXq.out.step hb)
          have HF' := hide (And.intro (HF.out.1.trans ((hb).mono HF.out.1.size)) (And.intro (HF.out.2.1.step (hb)) (And.intro (HF.out.2.2.1.step (hb)) (HF.out.2.2.2.below (hb)))))
          have TC := hide (n)
          refine hK _ _ (fun _ => HF'.out) ?_
          clear hK K HF hb n
          have HF := hide HF'.out
          clear HF'
          refine Calm.one (i := 3) (l' := #[true, true, true, true, false, false, false, false, true, true, false, false, false]) (by kernel_rfl) rfl rfl rfl fun K hK => ?_
          go_simp
          refine (idivmod_zero _ _ x _ HF.out.2.2.2 TC.out).mono ?_
          rintro e u2 ⟨q, r, rfl, n, n', hb⟩
          obtain ⟨sq, mq, kq, cq, rfl, n⟩ := n.cells
          obtain ⟨sr, mr, kr, cr, rfl, n'⟩ := n'.cells
          clear TC
          replace BXr := hide (BXr.out.step hb)
          replace BXq := hide (BXq.out.step hb)
          have HF' := hide (And.intro (HF.out.1.trans ((hb).mono HF.out.1.size)) (And.intro (HF.out.2.1.step (hb)) (And.intro (HF.out.2.2.1.step (hb)) (HF.out.2.2.2.below (hb)))))
          have TQ := hide (n)
          have TR := hide (n')
          refine hK _ _ (fun _ => HF'.out) ?_
          clear hK K HF hb n n'
          have HF := hide HF'.out
          clear HF'
          refine Calm.take (i := 4) (v := ?_) (a' := ?_) (l' := #[true, true, true, true, true, false, false, false, true, true, false, false, false]) (d := some 9) rfl (by kernel_rfl) (by kernel_rfl) (by kernel_rfl) (by kernel_rfl) (fun _ _ _ h => h) HF.out rfl ?_ rfl rfl ?_ ?_
          rotate_left
          · intro w' hF; clear hF; go_simp; try rfl
          rotate_left
          · simp only [Act.put]; exact rfl
          refine Calm.take (i := 5) (v := ?_) (a' := ?_) (l' := #[true, true, true, true, true, true, false, false, true, true, false, false, false]) (d := some 14) rfl (by kernel_rfl) (by kernel_rfl) (by kernel_rfl) (by kernel_rfl) (fun _ _ _ h => h) HF.out rfl ?_ rfl rfl ?_ ?_
          rotate_left
          · intro w' hF; clear hF; go_simp; try rfl
          rotate_left
          · simp only [Act.put]; exact rfl
          refine Calm.take (i := 6) (v := ?_) (a' := ?_) (l' := #[true, true, true, true, true, true, true, false, true, true, false, false, false]) (d := some 15) rfl (by kernel_rfl) (by kernel_rfl) (by kernel_rfl) (by kernel_rfl) (fun _ _ _ h => h) HF.out rfl ?_ rfl rfl ?_ ?_
          rotate_left
          · intro w' hF; clear hF; go_simp; try rfl
          rotate_left
          · simp only [Act.put]; exact rfl
          refine Calm.take (i := 7) (v := ?_) (a' := ?_) (l' := #[true, true, true, true, true, true, true, true, true, true, false, false, false]) (d := some 16) rfl (by kernel_rfl) (by kernel_rfl) (by kernel_rfl) (by kernel_rfl) (fun _ _ _ h => h) HF.out rfl ?_ rfl rfl ?_ ?_
          rotate_left
          · intro w' hF; clear hF; go_simp; try rfl
          rotate_left
          · simp only [Act.put]; exact rfl
          refine Calm.one (i := 10) (l' := #[true, true, true, true, true, true, true, true, true, true, true, false, false]) (by kernel_rfl) rfl rfl rfl fun K hK => ?_
          have LTS := hide (And.intro LT1q.out (And.intro LT2q.out (And.intro LT1r.out (And.intro LT2r.out (show gq ≠ gr by first | exact Nat.ne_of_lt LTqr.out | exact Nat.ne_of_gt LTrq.out)))))
          have hc0 := BXq.out.cell0
          have hc1 := BXq.out.cell1
          have hf0 := BXq.out.free 0
          have hf1 := BXq.out.free 1
          go_simp
          have HF' := hide (And.intro (below_put HF.out.1 (show w.heap.size ≤ gq by have hx := LTS.out; omega) (.bool sq) (.slice mq kq cq)) (And.intro (HF.out.2.1.other (C := gq) (by have hx := LTS.out; omega) (.bool sq) (.slice mq kq cq)) (And.intro (HF.out.2.2.1.other (C := gq) (by have hx := LTS.out; omega) (.bool sq) (.slice mq kq cq)) (HF.out.2.2.2.keep (BXq.out.keeps (by simp) (by simp) (.bool sq) (.slice mq kq cq))))))
          replace TQ := hide (TQ.out.keep (BXq.out.keeps (by simp) (by simp) (.bool sq) (.slice mq kq cq)))
          replace TR := hide (TR.out.keep (BXq.out.keeps (by simp) (by simp) (.bool sq) (.slice mq kq cq)))
          replace BXr := hide (BXr.out.other (C := gq) (by have hx := LTS.out; omega) (.bool sq) (.slice mq kq cq))
          replace BXq := hide (BXq.out.put (.bool sq) (.slice mq kq cq))
          refine hK _ _ (fun _ => HF'.out) ?_
          clear hK K HF hc0 hf0 hc1 hf1
          have HF := hide HF'.out
          clear HF'
          generalize ((u2.setCell ⟨gq, 0, none⟩ (.bool sq)).setCell ⟨gq, 1, none⟩ (.slice mq kq cq)) = ws1 at *
          refine Calm.one (i := 11) (l' := #[true, true, true, true, true, true, true, true, true, true, true, true, false]) (by kernel_rfl) rfl rfl rfl fun K hK => ?_
          have hc0 := BXr.out.cell0
          have hc1 := BXr.out.cell1
          have hf0 := BXr.out.free 0
          have hf1 := BXr.out.free 1
          go_simp
          have HF' := hide (And.intro (below_put HF.out.1 (show w.heap.size ≤ gr by have hx := LTS.out; omega) (.bool sr) (.slice mr kr cr)) (And.intro (HF.out.2.1.other (C := gr) (by have hx := LTS.out; omega) (.bool sr) (.slice mr kr cr)) (And.intro (HF.out.2.2.1.other (C := gr) (by have hx := LTS.out; omega) (.bool sr) (.slice mr kr cr)) (HF.out.2.2.2.keep (BXr.out.keeps (by simp) (by simp) (.bool sr) (.slice mr kr cr))))))
          replace TQ := hide (TQ.out.keep (BXr.out.keeps (by simp) (by simp) (.bool sr) (.slice mr kr cr)))
          replace TR := hide (TR.out.keep (BXr.out.keeps (by simp) (by simp) (.bool sr) (.slice mr kr cr)))
          replace BXq := hide (BXq.out.other (C := gr) (by have hx := LTS.out; omega) (.bool sr) (.slice mr kr cr))
          replace BXr := hide (BXr.out.put (.bool sr) (.slice mr kr cr))
          refine hK _ _ (fun _ => HF'.out) ?_
          clear hK K HF hc0 hf0 hc1 hf1
          have HF := hide HF'.out
          clear HF'
          generalize ((ws1.setCell ⟨gr, 0, none⟩ (.bool sr)).setCell ⟨gr, 1, none⟩ (.slice mr kr cr)) = ws2 at *
          refine Calm.take (i := 12) (v := ?_) (a' := ?_) (l' := #[true, true, true, true, true, true, true, true, true, true, true, true, true]) (d := some 8) rfl (by kernel_rfl) (by kernel_rfl) (by kernel_rfl) (by kernel_rfl) (fun _ _ _ h => h) HF.out rfl ?_ rfl rfl ?_ ?_
          rotate_left
          · intro w' hF; clear hF; go_simp; try rfl
          rotate_left
          · simp only [Act.put]; exact rfl
          refine Calm.done (by kernel_rfl) ?_
          go_wp2
          go_meet
          case rel => exact ⟨gq, gr, sq, mq, kq, cq, sr, mr, kr, cr, rfl, rfl, rfl, LTS.out, HF.out.1, HF.out.2.1, HF.out.2.2.1, BXq.out, BXr.out, TQ.out, TR.out⟩
    case rest =>
      obtain ⟨gq, gr, sq, mq, kq, cq, sr, mr, kr, cr, rfl, rfl, rfl, hlts, hB, h1, h2, hq, hr, hiq, hir⟩ := hcut
      have LTS := hide hlts
      clear HB P0 P1 I1
      have HB := hide hB
      have P1 := hide h2
      have PQ := hide hq
      have PR := hide hr
      have IQ := hide hiq
      have IR := hide hir
      clear hlts hB h1 h2 hq hr hiq hir
      generalize hwc : wc = w5 at *
      clear hwc
      have hc0 := P1.out.cell0
      have hc1 := P1.out.cell1
      have hf0 := P1.out.free 0
      have hf1 := P1.out.free 1
      go_wp2
      refine ret_one rfl (w.heap.size + 1) _ _ rfl (P1.out.put _ _) rfl ?_
      exact ⟨_, _, _, rfl, int_zero _, Or.inl ⟨rfl, rfl, rfl⟩, below_put HB.out (Nat.le_succ _) _ _⟩
  · have HC := hide hc
    clear hc
    go_wp2_with fail
    generalize (w.alloc (.cells #[.bool b1, .slice a1 L1 c1] 28)).alloc (.cells #[.bool false, .slice none 0 0] 28) = w0 at *
    go_cut [6, 7, 8] from 9 (fun pq pr ev wx => ∃ gq gr sq mq kq cq sr mr kr cr, pq = .pointer (some ⟨gq, 0, none⟩) ∧ pr = .pointer (some ⟨gr, 0, none⟩) ∧ ev = .int .i64 0 ∧ (w.heap.size < gq ∧ (w.heap.size + 1) < gq ∧ w.heap.size < gr ∧ (w.heap.size + 1) < gr ∧ gq ≠ gr) ∧ Below w.heap.size w wx ∧ Box wx w.heap.size (.bool b1) (.slice a1 L1 c1) ∧ Box wx (w.heap.size + 1) (.bool false) (.slice none 0 0) ∧ Box wx gq (.bool sq) (.slice mq kq cq) ∧ Box wx gr (.bool sr) (.slice mr kr cr) ∧ IntAt wx (.agg #[.bool sq, .slice mq kq cq]) (x / c) ∧ IntAt wx (.agg #[.bool sr, .slice mr kr cr]) (x % c))
    case first =>
      refine wp_calm (fun w' => Below w.heap.size w w' ∧ Box w' w.heap.size (.bool b1) (.slice a1 L1 c1) ∧ Box w' (w.heap.size + 1) (.bool false) (.slice none 0 0) ∧ IntAt w' (.agg #[.bool b1, .slice a1 L1 c1]) x) (fun _ => true) 13 #[false, false, false, false, false, false, false, false, false, false, false, false, false] (by kernel_rfl) rfl rfl ?_
      have HF := hide (And.intro (HB.out.drew) (And.intro (P0.out.drew) (And.intro (P1.out.drew) (I1.out.drew))))
      generalize w0.drew = w0d at *
      refine Calm.take (i := 0) (v := ?_) (a' := ?_) (l' := #[true, false, false, false, false, false, false, false, false, false, false, false, false]) (d := some 10) rfl (by kernel_rfl) (by kernel_rfl) (by kernel_rfl) (by kernel_rfl) (fun _ _ _ h => h) HF.out rfl ?_ rfl rfl ?_ ?_
      rotate_left
      · intro w' hF; have f10 := hF.2.1.cell0; have f11 := hF.2.1.cell1; have f20 := hF.2.2.1.cell0; have f21 := hF.2.2.1.cell1; clear hF; go_simp; try rfl
      rotate_left
      · simp only [Act.put]; exact rfl
      refine Calm.take (i := 1) (v := ?_) (a' := ?_) (l' := #[true, true, false, false, false, false, false, false, false, false, false, false, false]) (d := some 11) rfl (by kernel_rfl) (by kernel_rfl) (by kernel_rfl) (by kernel_rfl) (fun _ _ _ h => h) HF.out rfl ?_ rfl rfl ?_ ?_
      rotate_left
      · intro w' hF; clear hF; go_simp; try rfl
      rotate_left
      · simp only [Act.put]; exact rfl
      refine Calm.three (i := 2) (j := 8) (m := 9) (l := #[true, true, true, false, false, false, false, false, false, false, false, false, false]) (l' := #[true, true, false, false, false, false, false, false, true, false, false, false, false]) (l'' := #[true, true, false, false, false, false, false, false, false, true, false, false, false]) (by kernel_rfl) rfl rfl rfl rfl rfl rfl rfl rfl rfl (fun K hK => ?_) (fun K hK => ?_) (fun K hK => ?_)
      · go_simp
        refine (iof_any c _ (by first | exact HL.out | decide) (by first | exact HH.out | decide)).mono ?_
        rintro e u1 ⟨v, rfl, n, hb⟩
        have HF' := hide (And.intro (HF.out.1.trans ((hb).mono HF.out.1.size)) (And.intro (HF.out.2.1.step (hb)) (And.intro (HF.out.2.2.1.step (hb)) (HF.out.2.2.2.below (hb)))))
        have TC := hide (n)
        refine hK _ _ (fun _ => HF'.out) ?_
        clear hK K HF hb n
        have HF := hide HF'.out
        clear HF'
        refine Calm.three (i := 3) (j := 8) (m := 9) (l := #[true, true, true, true, false, false, false, false, false, false, false, false, false]) (l' := #[true, true, true, false, false, false, false, false, true, false, false, false, false]) (l'' := #[true, true, true, false, false, false, false, false, false, true, false, false, false]) (by kernel_rfl) rfl rfl rfl rfl rfl rfl rfl rfl rfl (fun K hK => ?_) (fun K hK => ?_) (fun K hK => ?_)
        · go_simp
          refine (idivmod_any _ _ x c _ HF.out.2.2.2 TC.out LX.out (SzI.len (SzI.word HL.out HH.out) (by decide)) HC.out).mono ?_
          rintro e u2 ⟨q, r, rfl, n, n', hb⟩
          obtain ⟨sq, mq, kq, cq, rfl, n⟩ := n.cells
          obtain ⟨sr, mr, kr, cr, rfl, n'⟩ := n'.cells
          clear TC
          have HF' := hide (And.intro (HF.out.1.trans ((hb).mono HF.out.1.size)) (And.intro (HF.out.2.1.step (hb)) (And.intro (HF.out.2.2.1.step (hb)) (HF.out.2.2.2.below (hb)))))
          have TQ := hide (n)
          have TR := hide (n')
          refine hK _ _ (fun _ => HF'.out) ?_
          clear hK K HF hb n n'
          have HF := hide HF'.out
          clear HF'
          refine Calm.take (i := 4) (v := ?_) (a' := ?_) (l' := #[true, true, true, true, true, false, false, false, false, false, false, false, false]) (d := some 9) rfl (by kernel_rfl) (by kernel_rfl) (by kernel_rfl) (by kernel_rfl) (fun _ _ _ h => h) HF.out rfl ?_ rfl rfl ?_ ?_
          rotate_left
          · intro w' hF; clear hF; go_simp; try rfl
          rotate_left
          · simp only [Act.put]; exact rfl
          refine Calm.take (i := 5) (v := ?_) (a' := ?_) (l' := #[true, true, true, true, true, true, false, false, false, false, false, false, false]) (d := some 14) rfl (by kernel_rfl) (by kernel_rfl) (by kernel_rfl) (by kernel_rfl) (fun _ _ _ h => h) HF.out rfl ?_ rfl rfl ?_ ?_
          rotate_left
          · intro w' hF; clear hF; go_simp; try rfl
          rotate_left
          · simp only [Act.put]; exact rfl
          refine Calm.take (i := 6) (v := ?_) (a' := ?_) (l' := #[true, true, true, true, true, true, true, false, false, false, false, false, false]) (d := some 15) rfl (by kernel_rfl) (by kernel_rfl) (by kernel_rfl) (by kernel_rfl) (fun _ _ _ h => h) HF.out rfl ?_ rfl rfl ?_ ?_
          rotate_left
          · intro w' hF; clear hF; go_simp; try rfl
          rotate_left
          · simp only [Act.put]; exact rfl
          refine Calm.take (i := 7) (v := ?_) (a' := ?_) (l' := #[true, true, true, true, true, true, true, true, false, false, false, false, false]) (d := some 16) rfl (by kernel_rfl) (by kernel_rfl) (by kernel_rfl) (by kernel_rfl) (fun _ _ _ h => h) HF.out rfl ?_ rfl rfl ?_ ?_
          rotate_left
          · intro w' hF; clear hF; go_simp; try rfl
          rotate_left
          · simp only [Act.put]; exact rfl
          refine Calm.two (i := 8) (j := 9) (l := #[true, true, true, true, true, true, true, true, true, false, false, false, false]) (l' := #[true, true, true, true, true, true, true, true, false, true, false, false, false]) (by kernel_rfl) rfl rfl rfl rfl rfl rfl (fun K hK => ?_) (fun K hK => ?_)
          · go_simp
            have al := below_alloc u2 (.cells #[.bool false, .slice none 0 0] 28)
            have HF' := hide (And.intro (HF.out.1.trans ((al).mono HF.out.1.size)) (And.intro (HF.out.2.1.step (al)) (And.intro (HF.out.2.2.1.step (al)) (HF.out.2.2.2.below (al)))))
            have BXq := hide (Box.new u2 (.bool false) (.slice none 0 0))
            replace TQ := hide (TQ.out.below (al))
            replace TR := hide (TR.out.below (al))
            have LT1q := hide (HF.out.2.1.lt)
            have LT2q := hide (HF.out.2.2.1.lt)
            have GEq := hide (HF.out.1.size)
            refine hK _ _ (fun _ => HF'.out) ?_
            clear hK K HF al
            have HF := hide HF'.out
            clear HF'
            generalize u2.alloc (.cells #[.bool false, .slice none 0 0] 28) = wzq at *
            generalize u2.heap.size = gq at *
            refine Calm.one (i := 9) (l' := #[true, true, true, true, true, true, true, true, true, true, false, false, false]) (by kernel_rfl) rfl rfl rfl fun K hK => ?_
            go_simp
            have al := below_alloc wzq (.cells #[.bool false, .slice none 0 0] 28)
            have HF' := hide (And.intro (HF.out.1.trans ((al).mono HF.out.1.size)) (And.intro (HF.out.2.1.step (al)) (And.intro (HF.out.2.2.1.step (al)) (HF.out.2.2.2.below (al)))))
            have BXr := hide (Box.new wzq (.bool false) (.slice none 0 0))
            replace TQ := hide (TQ.out.below (al))
            replace TR := hide (TR.out.below (al))
            have LTqr := hide (BXq.out.lt)
            replace BXq := hide (BXq.out.step al)
            have LT1r := hide (HF.out.2.1.lt)
            have LT2r := hide (HF.out.2.2.1.lt)
            have GEr := hide (HF.out.1.size)
            refine hK _ _ (fun _ => HF'.out) ?_
            clear hK K HF al
            have HF := hide HF'.out
            clear HF'
            generalize wzq.alloc (.cells #[.bool false, .slice none 0 0] 28) = wzr at *
            generalize wzq.heap.size = gr at *
            refine Calm.one (i := 10) (l' := #[true, true, true, true, true, true, true, true, true, true, true, false, false]) (by kernel_rfl) rfl rfl rfl fun K hK => ?_
            have LTS := hide (And.intro LT1q.out (And.intro LT2q.out (And.intro LT1r.out (And.intro LT2r.out (show gq ≠ gr by first | exact Nat.ne_of_lt LTqr.out | exact Nat.ne_of_gt LTrq.out)))))
            have hc0 := BXq.out.cell0
            have hc1 := BXq.out.cell1
            have hf0 := BXq.out.free 0
            have hf1 := BXq.out.free 1
            go_simp
            have HF' := hide (And.intro (below_put HF.out.1 (show w.heap.size ≤ gq by have hx := LTS.out; omega) (.bool sq) (.slice mq kq cq)) (And.intro (HF.out.2.1.other (C := gq) (by have hx := LTS.out; omega) (.bool sq) (.slice mq kq cq)) (And.intro (HF.out.2.2.1.other (C := gq) (by have hx := LTS.out; omega) (.bool sq) (.slice mq kq cq)) (HF.out.2.2.2.keep (BXq.out.keeps (by simp) (by simp) (.bool sq) (.slice mq kq cq))))))
            replace TQ := hide (TQ.out.keep (BXq.out.keeps (by simp) (by simp) (.bool sq) (.slice mq kq cq)))
            replace TR := hide (TR.out.keep (BXq.out.keeps (by simp) (by simp) (.bool sq) (.slice mq kq cq)))
            replace BXr := hide (BXr.out.other (C := gq) (by have hx := LTS.out; omega) (.bool sq) (.slice mq kq cq))
            replace BXq := hide (BXq.out.put (.bool sq) (.slice mq kq cq))
            refine hK _ _ (fun _ => HF'.out) ?_
            clear hK K HF hc0 hf0 hc1 hf1
            have HF := hide HF'.out
            clear HF'
            generalize ((wzr.setCell ⟨gq, 0, none⟩ (.bool sq)).setCell ⟨gq, 1, none⟩ (.slice mq kq cq)) = ws1 at *
            refine Calm.one (i := 11) (l' := #[true, true, true, true, true, true, true, true, true, true, true, true, false]) (by kernel_rfl) rfl rfl rfl fun K hK => ?_
            have hc0 := BXr.out.cell0
            have hc1 := BXr.out.cell1
            have hf0 := BXr.out.free 0
            have hf1 := BXr.out.free 1
            go_simp
            have HF' := hide (And.intro (below_put HF.out.1 (show w.heap.size ≤ gr by have hx := LTS.out; omega) (.bool sr) (.slice mr kr cr)) (And.intro (HF.out.2.1.other (C := gr) (by have hx := LTS.out; omega) (.bool sr) (.slice mr kr cr)) (And.intro (HF.out.2.2.1.other (C := gr) (by have hx := LTS.out; omega) (.bool sr) (.slice mr kr cr)) (HF.out.2.2.2.keep (BXr.out.keeps (by simp) (by simp) (.bool sr) (.slice mr kr cr))))))
            replace TQ := hide (TQ.out.keep (BXr.out.keeps (by simp) (by simp) (.bool sr) (.slice mr kr cr)))
            replace TR := hide (TR.out.keep (BXr.out.keeps (by simp) (by simp) (.bool sr) (.slice mr kr cr)))
            replace BXq := hide (BXq.out.other (C := gr) (by have hx := LTS.out; omega) (.bool sr) (.slice mr kr cr))
            replace BXr := hide (BXr.out.put (.bool sr) (.slice mr kr cr))
            refine hK _ _ (fun _ => HF'.out) ?_
            clear hK K HF hc0 hf0 hc1 hf1
            have HF := hide HF'.out
            clear HF'
            generalize ((ws1.setCell ⟨gr, 0, none⟩ (.bool sr)).setCell ⟨gr, 1, none⟩ (.slice mr kr cr)) = ws2 at *
            refine Calm.take (i := 12) (v := ?_) (a' := ?_) (l' := #[true, true, true, true, true, true, true, true, true, true, true, true, true]) (d := some 8) rfl (by kernel_rfl) (by kernel_rfl) (by kernel_rfl) (by kernel_rfl) (fun _ _ _ h => h) HF.out rfl ?_ rfl rfl ?_ ?_
            rotate_left
            · intro w' hF; clear hF; go_simp; try rfl
            rotate_left
            · simp only [Act.put]; exact rfl
            refine Calm.done (by kernel_rfl) ?_
            go_wp2
            go_meet
            case rel => exact ⟨gq, gr, sq, mq, kq, cq, sr, mr, kr, cr, rfl, rfl, rfl, LTS.out, HF.out.1, HF.out.2.1, HF.out.2.2.1, BXq.out, BXr.out, TQ.out, TR.out⟩
          · go_simp
            have al := below_alloc u2 (.cells #[.bool false, .slice none 0 0] 28)
            have HF' := hide (And.intro (HF.out.1.trans ((al).mono HF.out.1.size)) (And.intro (HF.out.2.1.step (al)) (And.intro (HF.out.2.2.1.step (al)) (HF.out.2.2.2.below (al)))))
            have BXr := hide (Box.new u2 (.bool false) (.slice none 0 0))
            replace TQ := hide (TQ.out.below (al))
            replace TR := hide (TR.out.below (al))
            have LT1r := hide (HF.out.2.1.lt)
            have LT2r := hide (HF.out.2.2.1.lt)
            have GEr := hide (HF.out.1.size)
            refine hK _ _ (fun _ => HF'.out) ?_
            clear hK K HF al
            have HF := hide HF'.out
            clear HF'
            generalize u2.alloc (.cells #[.bool false, .slice none 0 0] 28) = wzr at *
            generalize u2.heap.size = gr at *
            refine Calm.one (i := 8) (l' := #[true, true, true, true, true, true, true, true, true, true, false, false, false]) (by kernel_rfl) rfl rfl rfl fun K hK => ?_
            go_simp
            have al := below_alloc wzr (.cells #[.bool false, .slice none 0 0] 28)
            have HF' := hide (And.intro (HF.out.1.trans ((al).mono HF.out.1.size)) (And.intro (HF.out.2.1.step (al)) (And.intro (HF.out.2.2.1.step (al)) (HF.out.2.2.2.below (al)))))
            have BXq := hide (Box.new wzr (.bool false) (.slice none 0 0))
            replace TQ := hide (TQ.out.below (al))
            replace TR := hide (TR.out.below (al))
            have LTrq := hide (BXr.out.lt)
            replace BXr := hide (BXr.out.step al)
            have LT1q := hide (HF.out.2.1.lt)
            have LT2q := hide (HF.out.2.2.1.lt)
            have GEq := hide (HF.out.1.size)
            refine hK _ _ (fun _ => HF'.out) ?_
            clear hK K HF al
            have HF := hide HF'.out
            clear HF'
            generalize wzr.alloc (.cells #[.bool false, .slice none 0 0] 28) = wzq at *
            generalize wzr.heap.size = gq at *
            refine Calm.one (i := 10) (l' := #[true, true, true, true, true, true, true, true, true, true, true, false, false]) (by kernel_rfl) rfl rfl rfl fun K hK => ?_
            have LTS := hide (And.intro LT1q.out (And.intro LT2q.out (And.intro LT1r.out (And.intro LT2r.out (show gq ≠ gr by first | exact Nat.ne_of_lt LTqr.out | exact Nat.ne_of_gt LTrq.out)))))
            have hc0 := BXq.out.cell0
            have hc1 := BXq.out.cell1
            have hf0 := BXq.out.free 0
            have hf1 := BXq.out.free 1
            go_simp
            have HF' := hide (And.intro (below_put HF.out.1 (show w.heap.size ≤ gq by have hx := LTS.out; omega) (.bool sq) (.slice mq kq cq)) (And.intro (HF.out.2.1.other (C := gq) (by have hx := LTS.out; omega) (.bool sq) (.slice mq kq cq)) (And.intro (HF.out.2.2.1.other (C := gq) (by have hx := LTS.out; omega) (.bool sq) (.slice mq kq cq)) (HF.out.2.2.2.keep (BXq.out.keeps (by simp) (by simp) (.bool sq) (.slice mq kq cq))))))
            replace TQ := hide (TQ.out.keep (BXq.out.keeps (by simp) (by simp) (.bool sq) (.slice mq kq cq)))
            replace TR := hide (TR.out.keep (BXq.out.keeps (by simp) (by simp) (.bool sq) (.slice mq kq cq)))
            replace BXr := hide (BXr.out.other (C := gq) (by have hx := LTS.out; omega) (.bool sq) (.slice mq kq cq))
            replace BXq := hide (BXq.out.put (.bool sq) (.slice mq kq cq))
            refine hK _ _ (fun _ => HF'.out) ?_
            clear hK K HF hc0 hf0 hc1 hf1
            have HF := hide HF'.out
            clear HF'
            generalize ((wzq.setCell ⟨gq, 0, none⟩ (.bool sq)).setCell ⟨gq, 1, none⟩ (.slice mq kq cq)) = ws1 at *
            refine Calm.one (i := 11) (l' := #[true, true, true, true, true, true, true, true, true, true, true, true, false]) (by kernel_rfl) rfl rfl rfl fun K hK => ?_
            have hc0 := BXr.out.cell0
            have hc1 := BXr.out.cell1
            have hf0 := BXr.out.free 0
            have hf1 := BXr.out.free 1
            go_simp
            have HF' := hide (And.intro (below_put HF.out.1 (show w.heap.size ≤ gr by have hx := LTS.out; omega) (.bool sr) (.slice mr kr cr)) (And.intro (HF.out.2.1.other (C := gr) (by have hx := LTS.out; omega) (.bool sr) (.slice mr kr cr)) (And.intro (HF.out.2.2.1.other (C := gr) (by have hx := LTS.out; omega) (.bool sr) (.slice mr kr cr)) (HF.out.2.2.2.keep (BXr.out.keeps (by simp) (by simp) (.bool sr) (.slice mr kr cr))))))
            replace TQ := hide (TQ.out.keep (BXr.out.keeps (by simp) (by simp) (.bool sr) (.slice mr kr cr)))
            replace TR := hide (TR.out.keep (BXr.out.keeps (by simp) (by simp) (.bool sr) (.slice mr kr cr)))
            replace BXq := hide (BXq.out.other (C := gr) (by have hx := LTS.out; omega) (.bool sr) (.slice mr kr cr))
            replace BXr := hide (BXr.out.put (.bool sr) (.slice mr kr cr))
            refine hK _ _ (fun _ => HF'.out) ?_
            clear hK K HF hc0 hf0 hc1 hf1
            have HF := hide HF'.out
            clear HF'
            generalize ((ws1.setCell ⟨gr, 0, none⟩ (.bool sr)).setCell ⟨gr, 1, none⟩ (.slice mr kr cr)) = ws2 at *
            refine Calm.take (i := 12) (v := ?_) (a' := ?_) (l' := #[true, true, true, true, true, true, true, true, true, true, true, true, true]) (d := some 8) rfl (by kernel_rfl) (by kernel_rfl) (by kernel_rfl) (by kernel_rfl) (fun _ _ _ h => h) HF.out rfl ?_ rfl rfl ?_ ?_
            rotate_left
            · intro w' hF; clear hF; go_simp; try rfl
            rotate_left
            · simp only [Act.put]; exact rfl
            refine Calm.done (by kernel_rfl) ?_
            go_wp2
            go_meet
            case rel => exact ⟨gq, gr, sq, mq, kq, cq, sr, mr, kr, cr, rfl, rfl, rfl, LTS.out, HF.out.1, HF.out.2.1, HF.out.2.2.1, BXq.out, BXr.out, TQ.out, TR.out⟩
        · go_simp
          have al := below_alloc u1 (.cells #[.bool false, .slice none 0 0] 28)
          have HF' := hide (And.intro (HF.out.1.trans ((al).mono HF.out.1.size)) (And.intro (HF.out.2.1.step (al)) (And.intro (HF.out.2.2.1.step (al)) (HF.out.2.2.2.below (al)))))
          have BXq := hide (Box.new u1 (.bool false) (.slice none 0 0))
          replace TC := hide (TC.out.below (al))
          have LT1q := hide (HF.out.2.1.lt)
          have LT2q := hide (HF.out.2.2.1.lt)
          have GEq := hide (HF.out.1.size)
          refine hK _ _ (fun _ => HF'.out) ?_
          clear hK K HF al
          have HF := hide HF'.out
          clear HF'
          generalize u1.alloc (.cells #[.bool false, .slice none 0 0] 28) = wzq at *
          generalize u1.heap.size = gq at *
          refine Calm.two (i := 3) (j := 9) (l := #[true, true, true, true, false, false, false, false, true, false, false, false, false]) (l' := #[true, true, true, false, false, false, false, false, true, true, false, false, false]) (by kernel_rfl) rfl rfl rfl rfl rfl rfl (fun K hK => ?_) (fun K hK => ?_)
          · go_simp
            refine (idivmod_any _ _ x c _ HF.out.2.2.2 TC.out LX.out (SzI.len (SzI.word HL.out HH.out) (by decide)) HC.out).mono ?_
            rintro e u2 ⟨q, r, rfl, n, n', hb⟩
            obtain ⟨sq, mq, kq, cq, rfl, n⟩ := n.cells
            obtain ⟨sr, mr, kr, cr, rfl, n'⟩ := n'.cells
            clear TC
            replace BXq := hide (BXq.out.step hb)
            have HF' := hide (And.intro (HF.out.1.trans ((hb).mono HF.out.1.size)) (And.intro (HF.out.2.1.step (hb)) (And.intro (HF.out.2.2.1.step (hb)) (HF.out.2.2.2.below (hb)))))
            have TQ := hide (n)
            have TR := hide (n')
            refine hK _ _ (fun _ => HF'.out) ?_
            clear hK K HF hb n n'
            have HF := hide HF'.out
            clear HF'
            refine Calm.take (i := 4) (v := ?_) (a' := ?_) (l' := #[true, true, true, true, true, false, false, false, true, false, false, false, false]) (d := some 9) rfl (by kernel_rfl) (by kernel_rfl) (by kernel_rfl) (by kernel_rfl) (fun _ _ _ h => h) HF.out rfl ?_ rfl rfl ?_ ?_
            rotate_left
            · intro w' hF; clear hF; go_simp; try rfl
            rotate_left
            · simp only [Act.put]; exact rfl
            refine Calm.take (i := 5) (v := ?_) (a' := ?_) (l' := #[true, true, true, true, true, true, false, false, true, false, false, false, false]) (d := some 14) rfl (by kernel_rfl) (by kernel_rfl) (by kernel_rfl) (by kernel_rfl) (fun _ _ _ h => h) HF.out rfl ?_ rfl rfl ?_ ?_
            rotate_left
            · intro w' hF; clear hF; go_simp; try rfl
            rotate_left
            · simp only [Act.put]; exact rfl
            refine Calm.take (i := 6) (v := ?_) (a' := ?_) (l' := #[true, true, true, true, true, true, true, false, true, false, false, false, false]) (d := some 15) rfl (by kernel_rfl) (by kernel_rfl) (by kernel_rfl) (by kernel_rfl) (fun _ _ _ h => h) HF.out rfl ?_ rfl rfl ?_ ?_
            rotate_left
            · intro w' hF; clear hF; go_simp; try rfl
            rotate_left
            · simp only [Act.put]; exact rfl
            refine Calm.take (i := 7) (v := ?_) (a' := ?_) (l' := #[true, true, true, true, true, true, true, true, true, false, false, false, false]) (d := some 16) rfl (by kernel_rfl) (by kernel_rfl) (by kernel_rfl) (by kernel_rfl) (fun _ _ _ h => h) HF.out rfl ?_ rfl rfl ?_ ?_
            rotate_left
            · intro w' hF; clear hF; go_simp; try rfl
            rotate_left
            · simp only [Act.put]; exact rfl
            refine Calm.one (i := 9) (l' := #[true, true, true, true, true, true, true, true, true, true, false, false, false]) (by kernel_rfl) rfl rfl rfl fun K hK => ?_
            go_simp
            have al := below_alloc u2 (.cells #[.bool false, .slice none 0 0] 28)
            have HF' := hide (And.intro (HF.out.1.trans ((al).mono HF.out.1.size)) (And.intro (HF.out.2.1.step (al)) (And.intro (HF.out.2.2.1.step (al)) (HF.out.2.2.2.below (al)))))
            have BXr := hide (Box.new u2 (.bool false) (.slice none 0 0))
            replace TQ := hide (TQ.out.below (al))
            replace TR := hide (TR.out.below (al))
            have LTqr := hide (BXq.out.lt)
            replace BXq := hide (BXq.out.step al)
            have LT1r := hide (HF.out.2.1.lt)
            have LT2r := hide (HF.out.2.2.1.lt)
            have GEr := hide (HF.out.1.size)
            refine hK _ _ (fun _ => HF'.out) ?_
            clear hK K HF al
            have HF := hide HF'.out
            clear HF'
            generalize u2.alloc (.cells #[.bool false, .slice none 0 0] 28) = wzr at *
            generalize u2.heap.size = gr at *
            refine Calm.one (i := 10) (l' := #[true, true, true, true, true, true, true, true, true, true, true, false, false]) (by kernel_rfl) rfl rfl rfl fun K hK => ?_
            have LTS := hide (And.intro LT1q.out (And.intro LT2q.out (And.intro LT1r.out (And.intro LT2r.out (show gq ≠ gr by first | exact Nat.ne_of_lt LTqr.out | exact Nat.ne_of_gt LTrq.out)))))
            have hc0 := BXq.out.cell0
            have hc1 := BXq.out.cell1
            have hf0 := BXq.out.free 0
            have hf1 := BXq.out.free 1
            go_simp
            have HF' := hide (And.intro (below_put HF.out.1 (show w.heap.size ≤ gq by have hx := LTS.out; omega) (.bool sq) (.slice mq kq cq)) (And.intro (HF.out.2.1.other (C := gq) (by have hx := LTS.out; omega) (.bool sq) (.slice mq kq cq)) (And.intro (HF.out.2.2.1.other (C := gq) (by have hx := LTS.out; omega) (.bool sq) (.slice mq kq cq)) (HF.out.2.2.2.keep (BXq.out.keeps (by simp) (by simp) (.bool sq) (.slice mq kq cq))))))
            replace TQ := hide (TQ.out.keep (BXq.out.keeps (by simp) (by simp) (.bool sq) (.slice mq kq cq)))
            replace TR := hide (TR.out.keep (BXq.out.keeps (by simp) (by simp) (.bool sq) (.slice mq kq cq)))
            replace BXr := hide (BXr.out.other (C := gq) (by have hx := LTS.out; omega) (.bool sq) (.slice mq kq cq))
            replace BXq := hide (BXq.out.put (.bool sq) (.slice mq kq cq))
            refine hK _ _ (fun _ => HF'.out) ?_
            clear hK K HF hc0 hf0 hc1 hf1
            have HF := hide HF'.out
            clear HF'
            generalize ((wzr.setCell ⟨gq, 0, none⟩ (.bool sq)).setCell ⟨gq, 1, none⟩ (.slice mq kq cq)) = ws1 at *
            refine Calm.one (i := 11) (l' := #[true, true, true, true, true, true, true, true, true, true, true, true, false]) (by kernel_rfl) rfl rfl rfl fun K hK => ?_
            have hc0 := BXr.out.cell0
            have hc1 := BXr.out.cell1
            have hf0 := BXr.out.free 0
            have hf1 := BXr.out.free 1
            go_simp
            have HF' := hide (And.intro (below_put HF.out.1 (show w.heap.size ≤ gr by have hx := LTS.out; omega) (.bool sr) (.slice mr kr cr)) (And.intro (HF.out.2.1.other (C := gr) (by have hx := LTS.out; omega) (.bool sr) (.slice mr kr cr)) (And.intro (HF.out.2.2.1.other (C := gr) (by have hx := LTS.out; omega) (.bool sr) (.slice mr kr cr)) (HF.out.2.2.2.keep (BXr.out.keeps (by simp) (by simp) (.bool sr) (.slice mr kr cr))))))
            replace TQ := hide (TQ.out.keep (BXr.out.keeps (by simp) (by simp) (.bool sr) (.slice mr kr cr)))
            replace TR := hide (TR.out.keep (BXr.out.keeps (by simp) (by simp) (.bool sr) (.slice mr kr cr)))
            replace BXq := hide (BXq.out.other (C := gr) (by have hx := LTS.out; omega) (.bool sr) (.slice mr kr cr))
            replace BXr := hide (BXr.out.put (.bool sr) (.slice mr kr cr))
            refine hK _ _ (fun _ => HF'.out) ?_
            clear hK K HF hc0 hf0 hc1 hf1
            have HF := hide HF'.out
            clear HF'
            generalize ((ws1.setCell ⟨gr, 0, none⟩ (.bool sr)).setCell ⟨gr, 1, none⟩ (.slice mr kr cr)) = ws2 at *
            refine Calm.take (i := 12) (v := ?_) (a' := ?_) (l' := #[true, true, true, true, true, true, true, true, true, true, true, true, true]) (d := some 8) rfl (by kernel_rfl) (by kernel_rfl) (by kernel_rfl) (by kernel_rfl) (fun _ _ _ h => h) HF.out rfl ?_ rfl rfl ?_ ?_
            rotate_left
            · intro w' hF; clear hF; go_simp; try rfl
            rotate_left
            · simp only [Act.put]; exact rfl
            refine Calm.done (by kernel_rfl) ?_
            go_wp2
            go_meet
            case rel => exact ⟨gq, gr, sq, mq, kq, cq, sr, mr, kr, cr, rfl, rfl, rfl, LTS.out, HF.out.1, HF.out.2.1, HF.out.2.2.1, BXq.out, BXr.out, TQ.out, TR.out⟩
          · go_simp
            have al := below_alloc wzq (.cells #[.bool false, .slice none 0 0] 28)
            have HF' := hide (And.intro (HF.out.1.trans ((al).mono HF.out.1.size)) (And.intro (HF.out.2.1.step (al)) (And.intro (HF.out.2.2.1.step (al)) (HF.out.2.2.2.below (al)))))
            have BXr := hide (Box.new wzq (.bool false) (.slice none 0 0))
            replace TC := hide (TC.out.below (al))
            have LTqr := hide (BXq.out.lt)
            replace BXq := hide (BXq.out.step al)
            have LT1r := hide (HF.out.2.1.lt)
            have LT2r := hide (HF.out.2.2.1.lt)
            have GEr := hide (HF.out.1.size)
            refine hK _ _ (fun _ => HF'.out) ?_
            clear hK K HF al
            have HF := hide HF'.out
            clear HF'
            generalize wzq.alloc (.cells #[.bool false, .slice none 0 0] 28) = wzr at *
            generalize wzq.heap.size = gr at *
            refine Calm.one (i := 3) (l' := #[true, true, true, true, false, false, false, false, true, true, false, false, false]) (by kernel_rfl) rfl rfl rfl fun K hK => ?_
            go_simp
            refine (idivmod_any _ _ x c _ HF.out.2.2.2 TC.out LX.out (SzI.len (SzI.word HL.out HH.out) (by decide)) HC.out).mono ?_
            rintro e u2 ⟨q, r, rfl, n, n', hb⟩
            obtain ⟨sq, mq, kq, cq, rfl, n⟩ := n.cells
            obtain ⟨sr, mr, kr, cr, rfl, n'⟩ := n'.cells
            clear TC
            replace BXq := hide (BXq.out.step hb)
            replace BXr := hide (BXr.out.step hb)
            have HF' := hide (And.intro (HF.out.1.trans ((hb).mono HF.out.1.size)) (And.intro (HF.out.2.1.step (hb)) (And.intro (HF.out.2.2.1.step (hb)) (HF.out.2.2.2.below (hb)))))
            have TQ := hide (n)
            have TR := hide (n')
            refine hK _ _ (fun _ => HF'.out) ?_
            clear hK K HF hb n n'
            have HF := hide HF'.out
            clear HF'
            refine Calm.take (i := 4) (v := ?_) (a' := ?_) (l' := #[true, true, true, true, true, false, false, false, true, true, false, false, false]) (d := some 9) rfl (by kernel_rfl) (by kernel_rfl) (by kernel_rfl) (by kernel_rfl) (fun _ _ _ h => h) HF.out rfl ?_ rfl rfl ?_ ?_
            rotate_left
            · intro w' hF; clear hF; go_simp; try rfl
            rotate_left
            · simp only [Act.put]; exact rfl
            refine Calm.take (i := 5) (v := ?_) (a' := ?_) (l' := #[true, true, true, true, true, true, false, false, true, true, false, false, false]) (d := some 14) rfl (by kernel_rfl) (by kernel_rfl) (by kernel_rfl) (by kernel_rfl) (fun _ _ _ h => h) HF.out rfl ?_ rfl rfl ?_ ?_
            rotate_left
            · intro w' hF; clear hF; go_simp; try rfl
            rotate_left
            · simp only [Act.put]; exact rfl
            refine Calm.take (i := 6) (v := ?_) (a' := ?_) (l' := #[true, true, true, true, true, true, true, false, true, true, false, false, false]) (d := some 15) rfl (by kernel_rfl) (by kernel_rfl) (by kernel_rfl) (by kernel_rfl) (fun _ _ _ h => h) HF.out rfl ?_ rfl rfl ?_ ?_
            rotate_left
            · intro w' hF; clear hF; go_simp; try rfl
            rotate_left
            · simp only [Act.put]; exact rfl
            refine Calm.take (i := 7) (v := ?_) (a' := ?_) (l' := #[true, true, true, true, true, true, true, true, true, true, false, false, false]) (d := some 16) rfl (by kernel_rfl) (by kernel_rfl) (by kernel_rfl) (by kernel_rfl) (fun _ _ _ h => h) HF.out rfl ?_ rfl rfl ?_ ?_
            rotate_left
            · intro w' hF; clear hF; go_simp; try rfl
            rotate_left
            · simp only [Act.put]; exact rfl
            refine Calm.one (i := 10) (l' := #[true, true, true, true, true, true, true, true, true, true, true, false, false]) (by kernel_rfl) rfl rfl rfl fun K hK => ?_
            have LTS := hide (And.intro LT1q.out (And.intro LT2q.out (And.intro LT1r.out (And.intro LT2r.out (show gq ≠ gr by first | exact Nat.ne_of_lt LTqr.out | exact Nat.ne_of_gt LTrq.out)))))
            have hc0 := BXq.out.cell0
            have hc1 := BXq.out.cell1
            have hf0 := BXq.out.free 0
            have hf1 := BXq.out.free 1
            go_simp
            have HF' := hide (And.intro (below_put HF.out.1 (show w.heap.size ≤ gq by have hx := LTS.out; omega) (.bool sq) (.slice mq kq cq)) (And.intro (HF.out.2.1.other (C := gq) (by have hx := LTS.out; omega) (.bool sq) (.slice mq kq cq)) (And.intro (HF.out.2.2.1.other (C := gq) (by have hx := LTS.out; omega) (.bool sq) (.slice mq kq cq)) (HF.out.2.2.2.keep (BXq.out.keeps (by simp) (by simp) (.bool sq) (.slice mq kq cq))))))
            replace TQ := hide (TQ.out.keep (BXq.out.keeps (by simp) (by simp) (.bool sq) (.slice mq kq cq)))
            replace TR := hide (TR.out.keep (BXq.out.keeps (by simp) (by simp) (.bool sq) (.slice mq kq cq)))
            replace BXr := hide (BXr.out.other (C := gq) (by have hx := LTS.out; omega) (.bool sq) (.slice mq kq cq))
            replace BXq := hide (BXq.out.put (.bool sq) (.slice mq kq cq))
            refine hK _ _ (fun _ => HF'.out) ?_
            clear hK K HF hc0 hf0 hc1 hf1
            have HF := hide HF'.out
            clear HF'
            generalize ((u2.setCell ⟨gq, 0, none⟩ (.bool sq)).setCell ⟨gq, 1, none⟩ (.slice mq kq cq)) = ws1 at *
            refine Calm.one (i := 11) (l' := #[true, true, true, true, true, true, true, true, true, true, true, true, false]) (by kernel_rfl) rfl rfl rfl fun K hK => ?_
            have hc0 := BXr.out.cell0
            have hc1 := BXr.out.cell1
            have hf0 := BXr.out.free 0
            have hf1 := BXr.out.free 1
            go_simp
            have HF' := hide (And.intro (below_put HF.out.1 (show w.heap.size ≤ gr by have hx := LTS.out; omega) (.bool sr) (.slice mr kr cr)) (And.intro (HF.out.2.1.other (C := gr) (by have hx := LTS.out; omega) (.bool sr) (.slice mr kr cr)) (And.intro (HF.out.2.2.1.other (C := gr) (by have hx := LTS.out; omega) (.bool sr) (.slice mr kr cr)) (HF.out.2.2.2.keep (BXr.out.keeps (by simp) (by simp) (.bool sr) (.slice mr kr cr))))))
            replace TQ := hide (TQ.out.keep (BXr.out.keeps (by simp) (by simp) (.bool sr) (.slice mr kr cr)))
            replace TR := hide (TR.out.keep (BXr.out.keeps (by simp) (by simp) (.bool sr) (.slice mr kr cr)))
            replace BXq := hide (BXq.out.other (C := gr) (by have hx := LTS.out; omega) (.bool sr) (.slice mr kr cr))
            replace BXr := hide (BXr.out.put (.bool sr) (.slice mr kr cr))
            refine hK _ _ (fun _ => HF'.out) ?_
            clear hK K HF hc0 hf0 hc1 hf1
            have HF := hide HF'.out
            clear HF'
            generalize ((ws1.setCell ⟨gr, 0, none⟩ (.bool sr)).setCell ⟨gr, 1, none⟩ (.slice mr kr cr)) = ws2 at *
            refine Calm.take (i := 12) (v := ?_) (a' := ?_) (l' := #[true, true, true, true, true, true, true, true, true, true, true, true, true]) (d := some 8) rfl (by kernel_rfl) (by kernel_rfl) (by kernel_rfl) (by kernel_rfl) (fun _ _ _ h => h) HF.out rfl ?_ rfl rfl ?_ ?_
            rotate_left
            · intro w' hF; clear hF; go_simp; try rfl
            rotate_left
            · simp only [Act.put]; exact rfl
            refine Calm.done (by kernel_rfl) ?_
            go_wp2
            go_meet
            case rel => exact ⟨gq, gr, sq, mq, kq, cq, sr, mr, kr, cr, rfl, rfl, rfl, LTS.out, HF.out.1, HF.out.2.1, HF.out.2.2.1, BXq.out, BXr.out, TQ.out, TR.out⟩
        · go_simp
          have al := below_alloc u1 (.cells #[.bool false, .slice none 0 0] 28)
          have HF' := hide (And.intro (HF.out.1.trans ((al).mono HF.out.1.size)) (And.intro (HF.out.2.1.step (al)) (And.intro (HF.out.2.2.1.step (al)) (HF.out.2.2.2.below (al)))))
          have BXr := hide (Box.new u1 (.bool false) (.slice none 0 0))
          replace TC := hide (TC.out.below (al))
          have LT1r := hide (HF.out.2.1.lt)
          have LT2r := hide (HF.out.2.2.1.lt)
          have GEr := hide (HF.out.1.size)
          refine hK _ _ (fun _ => HF'.out) ?_
          clear hK K HF al
          have HF := hide HF'.out
          clear HF'
          generalize u1.alloc (.cells #[.bool false, .slice none 0 0] 28) = wzr at *
          generalize u1.heap.size = gr at *
          refine Calm.two (i := 3) (j := 8) (l := #[true, true, true, true, false, false, false, false, false, true, false, false, false]) (l' := #[true, true, true, false, false, false, false, false, true, true, false, false, false]) (by kernel_rfl) rfl rfl rfl rfl rfl rfl (fun K hK => ?_) (fun K hK => ?_)
          · go_simp
            refine (idivmod_any _ _ x c _ HF.out.2.2.2 TC.out LX.out (SzI.len (SzI.word HL.out HH.out) (by decide)) HC.out).mono ?_
            rintro e u2 ⟨q, r, rfl, n, n', hb⟩
            obtain ⟨sq, mq, kq, cq, rfl, n⟩ := n.cells
            obtain ⟨sr, mr, kr, cr, rfl, n'⟩ := n'.cells
            clear TC
            replace BXr := hide (BXr.out.step hb)
            have HF' := hide (And.intro (HF.out.1.trans ((hb).mono HF.out.1.size)) (And.intro (HF.out.2.1.step (hb)) (And.intro (HF.out.2.2.1.step (hb)) (HF.out.2.2.2.below (hb)))))
            have TQ := hide (n)
            have TR := hide (n')
            refine hK _ _ (fun _ => HF'.out) ?_
            clear hK K HF hb n n'
            have HF := hide HF'.out
            clear HF'
            refine Calm.take (i := 4) (v := ?_) (a' := ?_) (l' := #[true, true, true, true, true, false, false, false, false, true, false, false, false]) (d := some 9) rfl (by kernel_rfl) (by kernel_rfl) (by kernel_rfl) (by kernel_rfl) (fun _ _ _ h => h) HF.out rfl ?_ rfl rfl ?_ ?_
            rotate_left
            · intro w' hF; clear hF; go_simp; try rfl
            rotate_left
            · simp only [Act.put]; exact rfl
            refine Calm.take (i := 5) (v := ?_) (a' := ?_) (l' := #[true, true, true, true, true, true, false, false, false, true, false, false, false]) (d := some 14) rfl (by kernel_rfl) (by kernel_rfl) (by kernel_rfl) (by kernel_rfl) (fun _ _ _ h => h) HF.out rfl ?_ rfl rfl ?_ ?_
            rotate_left
            · intro w' hF; clear hF; go_simp; try rfl
            rotate_left
            · simp only [Act.put]; exact rfl
            refine Calm.take (i := 6) (v := ?_) (a' := ?_) (l' := #[true, true, true, true, true, true, true, false, false, true, false, false, false]) (d := some 15) rfl (by kernel_rfl) (by kernel_rfl) (by kernel_rfl) (by kernel_rfl) (fun _ _ _ h => h) HF.out rfl ?_ rfl rfl ?_ ?_
            rotate_left
            · intro w' hF; clear hF; go_simp; try rfl
            rotate_left
            · simp only [Act.put]; exact rfl
            refine Calm.take (i := 7) (v := ?_) (a' := ?_) (l' := #[true, true, true, true, true, true, true, true, false, true, false, false, false]) (d := some 16) rfl (by kernel_rfl) (by kernel_rfl) (by kernel_rfl) (by kernel_rfl) (fun _ _ _ h => h) HF.out rfl ?_ rfl rfl ?_ ?_
            rotate_left
            · intro w' hF; clear hF; go_simp; try rfl
            rotate_left
            · simp only [Act.put]; exact rfl
            refine Calm.one (i := 8) (l' := #[true, true, true, true, true, true, true, true, true, true, false, false, false]) (by kernel_rfl) rfl rfl rfl fun K hK => ?_
            go_simp
            have al := below_alloc u2 (.cells #[.bool false, .slice none 0 0] 28)
            have HF' := hide (And.intro (HF.out.1.trans ((al).mono HF.out.1.size)) (And.intro (HF.out.2.1.step (al)) (And.intro (HF.out.2.2.1.step (al)) (HF.out.2.2.2.below (al)))))
            have BXq := hide (Box.new u2 (.bool false) (.slice none 0 0))
            replace TQ := hide (TQ.out.below (al))
            replace TR := hide (TR.out.below (al))
            have LTrq := hide (BXr.out.lt)
            replace BXr := hide (BXr.out.step al)
            have LT1q := hide (HF.out.2.1.lt)
            have LT2q := hide (HF.out.2.2.1.lt)
            have GEq := hide (HF.out.1.size)
            refine hK _ _ (fun _ => HF'.out) ?_
            clear hK K HF al
            have HF := hide HF'.out
            clear HF'
            generalize u2.alloc (.cells #[.bool false, .slice none 0 0] 28) = wzq at *
            generalize u2.heap.size = gq at *
            refine Calm.one (i := 10) (l' := #[true, true, true, true, true, true, true, true, true, true, true, false, false]) (by kernel_rfl) rfl rfl rfl fun K hK => ?_
            have LTS := hide (And.intro LT1q.out (And.intro LT2q.out (And.intro LT1r.out (And.intro LT2r.out (show gq ≠ gr by first | exact Nat.ne_of_lt LTqr.out | exact Nat.ne_of_gt LTrq.out)))))
            have hc0 := BXq.out.cell0
            have hc1 := BXq.out.cell1
            have hf0 := BXq.out.free 0
            have hf1 := BXq.out.free 1
            go_simp
            have HF' := hide (And.intro (below_put HF.out.1 (show w.heap.size ≤ gq by have hx := LTS.out; omega) (.bool sq) (.slice mq kq cq)) (And.intro (HF.out.2.1.other (C := gq) (by have hx := LTS.out; omega) (.bool sq) (.slice mq kq cq)) (And.intro (HF.out.2.2.1.other (C := gq) (by have hx := LTS.out; omega) (.bool sq) (.slice mq kq cq)) (HF.out.2.2.2.keep (BXq.out.keeps (by simp) (by simp) (.bool sq) (.slice mq kq cq))))))
            replace TQ := hide (TQ.out.keep (BXq.out.keeps (by simp) (by simp) (.bool sq) (.slice mq kq cq)))
            replace TR := hide (TR.out.keep (BXq.out.keeps (by simp) (by simp) (.bool sq) (.slice mq kq cq)))
            replace BXr := hide (BXr.out.other (C := gq) (by have hx := LTS.out; omega) (.bool sq) (.slice mq kq cq))
            replace BXq := hide (BXq.out.put (.bool sq) (.slice mq kq cq))
            refine hK _ _ (fun _ => HF'.out) ?_
            clear hK K HF hc0 hf0 hc1 hf1
            have HF := hide HF'.out
            clear HF'
            generalize ((wzq.setCell ⟨gq, 0, none⟩ (.bool sq)).setCell ⟨gq, 1, none⟩ (.slice mq kq cq)) = ws1 at *
            refine Calm.one (i := 11) (l' := #[true, true, true, true, true, true, true, true, true, true, true, true, false]) (by kernel_rfl) rfl rfl rfl fun K hK => ?_
            have hc0 := BXr.out.cell0
            have hc1 := BXr.out.cell1
            have hf0 := BXr.out.free 0
            have hf1 := BXr.out.free 1
            go_simp
            have HF' := hide (And.intro (below_put HF.out.1 (show w.heap.size ≤ gr by have hx := LTS.out; omega) (.bool sr) (.slice mr kr cr)) (And.intro (HF.out.2.1.other (C := gr) (by have hx := LTS.out; omega) (.bool sr) (.slice mr kr cr)) (And.intro (HF.out.2.2.1.other (C := gr) (by have hx := LTS.out; omega) (.bool sr) (.slice mr kr cr)) (HF.out.2.2.2.keep (BXr.out.keeps (by simp) (by simp) (.bool sr) (.slice mr kr cr))))))
            replace TQ := hide (TQ.out.keep (BXr.out.keeps (by simp) (by simp) (.bool sr) (.slice mr kr cr)))
            replace TR := hide (TR.out.keep (BXr.out.keeps (by simp) (by simp) (.bool sr) (.slice mr kr cr)))
            replace BXq := hide (BXq.out.other (C := gr) (by have hx := LTS.out; omega) (.bool sr) (.slice mr kr cr))
            replace BXr := hide (BXr.out.put (.bool sr) (.slice mr kr cr))
            refine hK _ _ (fun _ => HF'.out) ?_
            clear hK K HF hc0 hf0 hc1 hf1
            have HF := hide HF'.out
            clear HF'
            generalize ((ws1.setCell ⟨gr, 0, none⟩ (.bool sr)).setCell ⟨gr, 1, none⟩ (.slice mr kr cr)) = ws2 at *
            refine Calm.take (i := 12) (v := ?_) (a' := ?_) (l' := #[true, true, true, true, true, true, true, true, true, true, true, true, true]) (d := some 8) rfl (by kernel_rfl) (by kernel_rfl) (by kernel_rfl) (by kernel_rfl) (fun _ _ _ h => h) HF.out rfl ?_ rfl rfl ?_ ?_
            rotate_left
            · intro w' hF; clear hF; go_simp; try rfl
            rotate_left
            · simp only [Act.put]; exact rfl
            refine Calm.done (by kernel_rfl) ?_
            go_wp2
            go_meet
            case rel => exact ⟨gq, gr, sq, mq, kq, cq, sr, mr, kr, cr, rfl, rfl, rfl, LTS.out, HF.out.1, HF.out.2.1, HF.out.2.2.1, BXq.out, BXr.out, TQ.out, TR.out⟩
          · go_simp
            have al := below_alloc wzr (.cells #[.bool false, .slice none 0 0] 28)
            have HF' := hide (And.intro (HF.out.1.trans ((al).mono HF.out.1.size)) (And.intro (HF.out.2.1.step (al)) (And.intro (HF.out.2.2.1.step (al)) (HF.out.2.2.2.below (al)))))
            have BXq := hide (Box.new wzr (.bool false) (.slice none 0 0))
            replace TC := hide (TC.out.below (al))
            have LTrq := hide (BXr.out.lt)
            replace BXr := hide (BXr.out.step al)
            have LT1q := hide (HF.out.2.1.lt)
            have LT2q := hide (HF.out.2.2.1.lt)
            have GEq := hide (HF.out.1.size)
            refine hK _ _ (fun _ => HF'.out) ?_
            clear hK K HF al
            have HF := hide HF'.out
            clear HF'
            generalize wzr.alloc (.cells #[.bool false, .slice none 0 0] 28) = wzq at *
            generalize wzr.heap.size = gq at *
            refine Calm.one (i := 3) (l' := #[true, true, true, true, false, false, false, false, true, true, false, false, false]) (by kernel_rfl) rfl rfl rfl fun K hK => ?_
            go_simp
            refine (idivmod_any _ _ x c _ HF.out.2.2.2 TC.out LX.out (SzI.len (SzI.word HL.out HH.out) (by decide)) HC.out).mono ?_
            rintro e u2 ⟨q, r, rfl, n, n', hb⟩
            obtain ⟨sq, mq, kq, cq, rfl, n⟩ := n.cells
            obtain ⟨sr, mr, kr, cr, rfl, n'⟩ := n'.cells
            clear TC
            replace BXr := hide (BXr.out.step hb)
            replace BXq := hide (BXq.out.step hb)
            have HF' := hide (And.intro (HF.out.1.trans ((hb).mono HF.out.1.size)) (And.intro (HF.out.2.1.step (hb)) (And.intro (HF.out.2.2.1.step (hb)) (HF.out.2.2.2.below (hb)))))
            have TQ := hide (n)
            have TR := hide (n')
            refine hK _ _ (fun _ => HF'.out) ?_
            clear hK K HF hb n n'
            have HF := hide HF'.out
            clear HF'
            refine Calm.take (i := 4) (v := ?_) (a' := ?_) (l' := #[true, true, true, true, true, false, false, false, true, true, false, false, false]) (d := some 9) rfl (by kernel_rfl) (by kernel_rfl) (by kernel_rfl) (by kernel_rfl) (fun _ _ _ h => h) HF.out rfl ?_ rfl rfl ?_ ?_
            rotate_left
            · intro w' hF; clear hF; go_simp; try rfl
            rotate_left
            · simp only [Act.put]; exact rfl
            refine Calm.take (i := 5) (v := ?_) (a' := ?_) (l' := #[true, true, true, true, true, true, false, false, true, true, false, false, false]) (d := some 14) rfl (by kernel_rfl) (by kernel_rfl) (by kernel_rfl) (by kernel_rfl) (fun _ _ _ h => h) HF.out rfl ?_ rfl rfl ?_ ?_
            rotate_left
            · intro w' hF; clear hF; go_simp; try rfl
            rotate_left
            · simp only [Act.put]; exact rfl
            refine Calm.take (i := 6) (v := ?_) (a' := ?_) (l' := #[true, true, true, true, true, true, true, false, true, true, false, false, false]) (d := some 15) rfl (by kernel_rfl) (by kernel_rfl) (by kernel_rfl) (by kernel_rfl) (fun _ _ _ h => h) HF.out rfl ?_ rfl rfl ?_ ?_
            rotate_left
            · intro w' hF; clear hF; go_simp; try rfl
            rotate_left
            · simp only [Act.put]; exact rfl
            refine Calm.take (i := 7) (v := ?_) (a' := ?_) (l' := #[true, true, true, true, true, true, true, true, true, true, false, false, false]) (d := some 16) rfl (by kernel_rfl) (by kernel_rfl) (by kernel_rfl) (by kernel_rfl) (fun _ _ _ h => h) HF.out rfl ?_ rfl rfl ?_ ?_
            rotate_left
            · intro w' hF; clear hF; go_simp; try rfl
            rotate_left
            · simp only [Act.put]; exact rfl
            refine Calm.one (i := 10) (l' := #[true, true, true, true, true, true, true, true, true, true, true, false, false]) (by kernel_rfl) rfl rfl rfl fun K hK => ?_
            have LTS := hide (And.intro LT1q.out (And.intro LT2q.out (And.intro LT1r.out (And.intro LT2r.out (show gq ≠ gr by first | exact Nat.ne_of_lt LTqr.out | exact Nat.ne_of_gt LTrq.out)))))
            have hc0 := BXq.out.cell0
            have hc1 := BXq.out.cell1
            have hf0 := BXq.out.free 0
            have hf1 := BXq.out.free 1
            go_simp
            have HF' := hide (And.intro (below_put HF.out.1 (show w.heap.size ≤ gq by have hx := LTS.out; omega) (.bool sq) (.slice mq kq cq)) (And.intro (HF.out.2.1.other (C := gq) (by have hx := LTS.out; omega) (.bool sq) (.slice mq kq cq)) (And.intro (HF.out.2.2.1.other (C := gq) (by have hx := LTS.out; omega) (.bool sq) (.slice mq kq cq)) (HF.out.2.2.2.keep (BXq.out.keeps (by simp) (by simp) (.bool sq) (.slice mq kq cq))))))
            replace TQ := hide (TQ.out.keep (BXq.out.keeps (by simp) (by simp) (.bool sq) (.slice mq kq cq)))
            replace TR := hide (TR.out.keep (BXq.out.keeps (by simp) (by simp) (.bool sq) (.slice mq kq cq)))
            replace BXr := hide (BXr.out.other (C := gq) (by have hx := LTS.out; omega) (.bool sq) (.slice mq kq cq))
            replace BXq := hide (BXq.out.put (.bool sq) (.slice mq kq cq))
            refine hK _ _ (fun _ => HF'.out) ?_
            clear hK K HF hc0 hf0 hc1 hf1
            have HF := hide HF'.out
            clear HF'
            generalize ((u2.setCell ⟨gq, 0, none⟩ (.bool sq)).setCell ⟨gq, 1, none⟩ (.slice mq kq cq)) = ws1 at *
            refine Calm.one (i := 11) (l' := #[true, true, true, true, true, true, true, true, true, true, true, true, false]) (by kernel_rfl) rfl rfl rfl fun K hK => ?_
            have hc0 := BXr.out.cell0
            have hc1 := BXr.out.cell1
            have hf0 := BXr.out.free 0
            have hf1 := BXr.out.free 1
            go_simp
            have HF' := hide (And.intro (below_put HF.out.1 (show w.heap.size ≤ gr by have hx := LTS.out; omega) (.bool sr) (.slice mr kr cr)) (And.intro (HF.out.2.1.other (C := gr) (by have hx := LTS.out; omega) (.bool sr) (.slice mr kr cr)) (And.intro (HF.out.2.2.1.other (C := gr) (by have hx := LTS.out; omega) (.bool sr) (.slice mr kr cr)) (HF.out.2.2.2.keep (BXr.out.keeps (by simp) (by simp) (.bool sr) (.slice mr kr cr))))))
            replace TQ := hide (TQ.out.keep (BXr.out.keeps (by simp) (by simp) (.bool sr) (.slice mr kr cr)))
            replace TR := hide (TR.out.keep (BXr.out.keeps (by simp) (by simp) (.bool sr) (.slice mr kr cr)))
            replace BXq := hide (BXq.out.other (C := gr) (by have hx := LTS.out; omega) (.bool sr) (.slice mr kr cr))
            replace BXr := hide (BXr.out.put (.bool sr) (.slice mr kr cr))
            refine hK _ _ (fun _ => HF'.out) ?_
            clear hK K HF hc0 hf0 hc1 hf1
            have HF := hide HF'.out
            clear HF'
            generalize ((ws1.setCell ⟨gr, 0, none⟩ (.bool sr)).setCell ⟨gr, 1, none⟩ (.slice mr kr cr)) = ws2 at *
            refine Calm.take (i := 12) (v := ?_) (a' := ?_) (l' := #[true, true, true, true, true, true, true, true, true, true, true, true, true]) (d := some 8) rfl (by kernel_rfl) (by kernel_rfl) (by kernel_rfl) (by kernel_rfl) (fun _ _ _ h => h) HF.out rfl ?_ rfl rfl ?_ ?_
            rotate_left
            · intro w' hF; clear hF; go_simp; try rfl
            rotate_left
            · simp only [Act.put]; exact rfl
            refine Calm.done (by kernel_rfl) ?_
            go_wp2
            go_meet
            case rel => exact ⟨gq, gr, sq, mq, kq, cq, sr, mr, kr, cr, rfl, rfl, rfl, LTS.out, HF.out.1, HF.out.2.1, HF.out.2.2.1, BXq.out, BXr.out, TQ.out, TR.out⟩
      · go_simp
        have al := below_alloc w0d (.cells #[.bool false, .slice none 0 0] 28)
        have HF' := hide (And.intro (HF.out.1.trans ((al).mono HF.out.1.size)) (And.intro (HF.out.2.1.step (al)) (And.intro (HF.out.2.2.1.step (al)) (HF.out.2.2.2.below (al)))))
        have BXq := hide (Box.new w0d (.bool false) (.slice none 0 0))
        have LT1q := hide (HF.out.2.1.lt)
        have LT2q := hide (HF.out.2.2.1.lt)
        have GEq := hide (HF.out.1.size)
        refine hK _ _ (fun _ => HF'.out) ?_
        clear hK K HF al
        have HF := hide HF'.out
        clear HF'
        generalize w0d.alloc (.cells #[.bool false, .slice none 0 0] 28) = wzq at *
        generalize w0d.heap.size = gq at *
        refine Calm.two (i := 2) (j := 9) (l := #[true, true, true, false, false, false, false, false, true, false, false, false, false]) (l' := #[true, true, false, false, false, false, false, false, true, true, false, false, false]) (by kernel_rfl) rfl rfl rfl rfl rfl rfl (fun K hK => ?_) (fun K hK => ?_)
        · go_simp
          refine (iof_any c _ (by first | exact HL.out | decide) (by first | exact HH.out | decide)).mono ?_
          rintro e u1 ⟨v, rfl, n, hb⟩
          replace BXq := hide (BXq.out.step hb)
          have HF' := hide (And.intro (HF.out.1.trans ((hb).mono HF.out.1.size)) (And.intro (HF.out.2.1.step (hb)) (And.intro (HF.out.2.2.1.step (hb)) (HF.out.2.2.2.below (hb)))))
          have TC := hide (n)
          refine hK _ _ (fun _ => HF'.out) ?_
          clear hK K HF hb n
          have HF := hide HF'.out
          clear HF'
          refine Calm.two (i := 3) (j := 9) (l := #[true, true, true, true, false, false, false, false, true, false, false, false, false]) (l' := #[true, true, true, false, false, false, false, false, true, true, false, false, false]) (by kernel_rfl) rfl rfl rfl rfl rfl rfl (fun K hK => ?_) (fun K hK => ?_)
          · go_simp
            refine (idivmod_any _ _ x c _ HF.out.2.2.2 TC.out LX.out (SzI.len (SzI.word HL.out HH.out) (by decide)) HC.out).mono ?_
            rintro e u2 ⟨q, r, rfl, n, n', hb⟩
            obtain ⟨sq, mq, kq, cq, rfl, n⟩ := n.cells
            obtain ⟨sr, mr, kr, cr, rfl, n'⟩ := n'.cells
            clear TC
            replace BXq := hide (BXq.out.step hb)
            have HF' := hide (And.intro (HF.out.1.trans ((hb).mono HF.out.1.size)) (And.intro (HF.out.2.1.step (hb)) (And.intro (HF.out.2.2.1.step (hb)) (HF.out.2.2.2.below (hb)))))
            have TQ := hide (n)
            have TR := hide (n')
            refine hK _ _ (fun _ => HF'.out) ?_
            clear hK K HF hb n n'
            have HF := hide HF'.out
            clear HF'
            refine Calm.take (i := 4) (v := ?_) (a' := ?_) (l' := #[true, true, true, true, true, false, false, false, true, false, false, false, false]) (d := some 9) rfl (by kernel_rfl) (by kernel_rfl) (by kernel_rfl) (by kernel_rfl) (fun _ _ _ h => h) HF.out rfl ?_ rfl rfl ?_ ?_
            rotate_left
            · intro w' hF; clear hF; go_simp; try rfl
            rotate_left
            · simp only [Act.put]; exact rfl
            refine Calm.take (i := 5) (v := ?_) (a' := ?_) (l' := #[true, true, true, true, true, true, false, false, true, false, false, false, false]) (d := some 14) rfl (by kernel_rfl) (by kernel_rfl) (by kernel_rfl) (by kernel_rfl) (fun _ _ _ h => h) HF.out rfl ?_ rfl rfl ?_ ?_
            rotate_left
            · intro w' hF; clear hF; go_simp; try rfl
            rotate_left
            · simp only [Act.put]; exact rfl
            refine Calm.take (i := 6) (v := ?_) (a' := ?_) (l' := #[true, true, true, true, true, true, true, false, true, false, false, false, false]) (d := some 15) rfl (by kernel_rfl) (by kernel_rfl) (by kernel_rfl) (by kernel_rfl) (fun _ _ _ h => h) HF.out rfl ?_ rfl rfl ?_ ?_
            rotate_left
            · intro w' hF; clear hF; go_simp; try rfl
            rotate_left
            · simp only [Act.put]; exact rfl
            refine Calm.take (i := 7) (v := ?_) (a' := ?_) (l' := #[true, true, true, true, true, true, true, true, true, false, false, false, false]) (d := some 16) rfl (by kernel_rfl) (by kernel_rfl) (by kernel_rfl) (by kernel_rfl) (fun _ _ _ h => h) HF.out rfl ?_ rfl rfl ?_ ?_
            rotate_left
            · intro w' hF; clear hF; go_simp; try rfl
            rotate_left
            · simp only [Act.put]; exact rfl
            refine Calm.one (i := 9) (l' := #[true, true, true, true, true, true, true, true, true, true, false, false, false]) (by kernel_rfl) rfl rfl rfl fun K hK => ?_
            go_simp
            have al := below_alloc u2 (.cells #[.bool false, .slice none 0 0] 28)
            have HF' := hide (And.intro (HF.out.1.trans ((al).mono HF.out.1.size)) (And.intro (HF.out.2.1.step (al)) (And.intro (HF.out.2.2.1.step (al)) (HF.out.2.2.2.below (al)))))
            have BXr := hide (Box.new u2 (.bool false) (.slice none 0 0))
            replace TQ := hide (TQ.out.below (al))
            replace TR := hide (TR.out.below (al))
            have LTqr := hide (BXq.out.lt)
            replace BXq := hide (BXq.out.step al)
            have LT1r := hide (HF.out.2.1.lt)
            have LT2r := hide (HF.out.2.2.1.lt)
            have GEr := hide (HF.out.1.size)
            refine hK _ _ (fun _ => HF'.out) ?_
            clear hK K HF al
            have HF := hide HF'.out
            clear HF'
            generalize u2.alloc (.cells #[.bool false, .slice none 0 0] 28) = wzr at *
            generalize u2.heap.size = gr at *
            refine Calm.one (i := 10) (l' := #[true, true, true, true, true, true, true, true, true, true, true, false, false]) (by kernel_rfl) rfl rfl rfl fun K hK => ?_
            have LTS := hide (And.intro LT1q.out (And.intro LT2q.out (And.intro LT1r.out (And.intro LT2r.out (show gq ≠ gr by first | exact Nat.ne_of_lt LTqr.out | exact Nat.ne_of_gt LTrq.out)))))
            have hc0 := BXq.out.cell0
            have hc1 := BXq.out.cell1
            have hf0 := BXq.out.free 0
            have hf1 := BXq.out.free 1
            go_simp
            have HF' := hide (And.intro (below_put HF.out.1 (show w.heap.size ≤ gq by have hx := LTS.out; omega) (.bool sq) (.slice mq kq cq)) (And.intro (HF.out.2.1.other (C := gq) (by have hx := LTS.out; omega) (.bool sq) (.slice mq kq cq)) (And.intro (HF.out.2.2.1.other (C := gq) (by have hx := LTS.out; omega) (.bool sq) (.slice mq kq cq)) (HF.out.2.2.2.keep (BXq.out.keeps (by simp) (by simp) (.bool sq) (.slice mq kq cq))))))
            replace TQ := hide (TQ.out.keep (BXq.out.keeps (by simp) (by simp) (.bool sq) (.slice mq kq cq)))
            replace TR := hide (TR.out.keep (BXq.out.keeps (by simp) (by simp) (.bool sq) (.slice mq kq cq)))
            replace BXr := hide (BXr.out.other (C := gq) (by have hx := LTS.out; omega) (.bool sq) (.slice mq kq cq))
            replace BXq := hide (BXq.out.put (.bool sq) (.slice mq kq cq))
            refine hK _ _ (fun _ => HF'.out) ?_
            clear hK K HF hc0 hf0 hc1 hf1
            have HF := hide HF'.out
            clear HF'
            generalize ((wzr.setCell ⟨gq, 0, none⟩ (.bool sq)).setCell ⟨gq, 1, none⟩ (.slice mq kq cq)) = ws1 at *
            refine Calm.one (i := 11) (l' := #[true, true, true, true, true, true, true, true, true, true, true, true, false]) (by kernel_rfl) rfl rfl rfl fun K hK => ?_
            have hc0 := BXr.out.cell0
            have hc1 := BXr.out.cell1
            have hf0 := BXr.out.free 0
            have hf1 := BXr.out.free 1
            go_simp
            have HF' := hide (And.intro (below_put HF.out.1 (show w.heap.size ≤ gr by have hx := LTS.out; omega) (.bool sr) (.slice mr kr cr)) (And.intro (HF.out.2.1.other (C := gr) (by have hx := LTS.out; omega) (.bool sr) (.slice mr kr cr)) (And.intro (HF.out.2.2.1.other (C := gr) (by have hx := LTS.out; omega) (.bool sr) (.slice mr kr cr)) (HF.out.2.2.2.keep (BXr.out.keeps (by simp) (by simp) (.bool sr) (.slice mr kr cr))))))
            replace TQ := hide (TQ.out.keep (BXr.out.keeps (by simp) (by simp) (.bool sr) (.slice mr kr cr)))
            replace TR := hide (TR.out.keep (BXr.out.keeps (by simp) (by simp) (.bool sr) (.slice mr kr cr)))
            replace BXq := hide (BXq.out.other (C := gr) (by have hx := LTS.out; omega) (.bool sr) (.slice mr kr cr))
            replace BXr := hide (BXr.out.put (.bool sr) (.slice mr kr cr))
            refine hK _ _ (fun _ => HF'.out) ?_
            clear hK K HF hc0 hf0 hc1 hf1
            have HF := hide HF'.out
            clear HF'
            generalize ((ws1.setCell ⟨gr, 0, none⟩ (.bool sr)).setCell ⟨gr, 1, none⟩ (.slice mr kr cr)) = ws2 at *
            refine Calm.take (i := 12) (v := ?_) (a' := ?_) (l' := #[true, true, true, true, true, true, true, true, true, true, true, true, true]) (d := some 8) rfl (by kernel_rfl) (by kernel_rfl) (by kernel_rfl) (by kernel_rfl) (fun _ _ _ h => h) HF.out rfl ?_ rfl rfl ?_ ?_
            rotate_left
            · intro w' hF; clear hF; go_simp; try rfl
            rotate_left
            · simp only [Act.put]; exact rfl
            refine Calm.done (by kernel_rfl) ?_
            go_wp2
            go_meet
            case rel => exact ⟨gq, gr, sq, mq, kq, cq, sr, mr, kr, cr, rfl, rfl, rfl, LTS.out, HF.out.1, HF.out.2.1, HF.out.2.2.1, BXq.out, BXr.out, TQ.out, TR.out⟩
          · go_simp
            have al := below_alloc u1 (.cells #[.bool false, .slice none 0 0] 28)
            have HF' := hide (And.intro (HF.out.1.trans ((al).mono HF.out.1.size)) (And.intro (HF.out.2.1.step (al)) (And.intro (HF.out.2.2.1.step (al)) (HF.out.2.2.2.below (al)))))
            have BXr := hide (Box.new u1 (.bool false) (.slice none 0 0))
            replace TC := hide (TC.out.below (al))
            have LTqr := hide (BXq.out.lt)
            replace BXq := hide (BXq.out.step al)
            have LT1r := hide (HF.out.2.1.lt)
            have LT2r := hide (HF.out.2.2.1.lt)
            have GEr := hide (HF.out.1.size)
            refine hK _ _ (fun _ => HF'.out) ?_
            clear hK K HF al
            have HF := hide HF'.out
            clear HF'
            generalize u1.alloc (.cells #[.bool false, .slice none 0 0] 28) = wzr at *
            generalize u1.heap.size = gr at *
            refine Calm.one (i := 3) (l' := #[true, true, true, true, false, false, false, false, true, true, false, false, false]) (by kernel_rfl) rfl rfl rfl fun K hK => ?_
            go_simp
            refine (idivmod_any _ _ x c _ HF.out.2.2.2 TC.out LX.out (SzI.len (SzI.word HL.out HH.out) (by decide)) HC.out).mono ?_
            rintro e u2 ⟨q, r, rfl, n, n', hb⟩
            obtain ⟨sq, mq, kq, cq, rfl, n⟩ := n.cells
            obtain ⟨sr, mr, kr, cr, rfl, n'⟩ := n'.cells
            clear TC
            replace BXq := hide (BXq.out.step hb)
            replace BXr := hide (BXr.out.step hb)
            have HF' := hide (And.intro (HF.out.1.trans ((hb).mono HF.out.1.size)) (And.intro (HF.out.2.1.step (hb)) (And.intro (HF.out.2.2.1.step (hb)) (HF.out.2.2.2.below (hb)))))
            have TQ := hide (n)
            have TR := hide (n')
            refine hK _ _ (fun _ => HF'.out) ?_
            clear hK K HF hb n n'
            have HF := hide HF'.out
            clear HF'
            refine Calm.take (i := 4) (v := ?_) (a' := ?_) (l' := #[true, true, true, true, true, false, false, false, true, true, false, false, false]) (d := some 9) rfl (by kernel_rfl) (by kernel_rfl) (by kernel_rfl) (by kernel_rfl) (fun _ _ _ h => h) HF.out rfl ?_ rfl rfl ?_ ?_
            rotate_left
            · intro w' hF; clear hF; go_simp; try rfl
            rotate_left
            · simp only [Act.put]; exact rfl
            refine Calm.take (i := 5) (v := ?_) (a' := ?_) (l' := #[true, true, true, true, true, true, false, false, true, true, false, false, false]) (d := some 14) rfl (by kernel_rfl) (by kernel_rfl) (by kernel_rfl) (by kernel_rfl) (fun _ _ _ h => h) HF.out rfl ?_ rfl rfl ?_ ?_
            rotate_left
            · intro w' hF; clear hF; go_simp; try rfl
            rotate_left
            · simp only [Act.put]; exact rfl
            refine Calm.take (i := 6) (v := ?_) (a' := ?_) (l' := #[true, true, true, true, true, true, true, false, true, true, false, false, false]) (d := some 15) rfl (by kernel_rfl) (by kernel_rfl) (by kernel_rfl) (by kernel_rfl) (fun _ _ _ h => h) HF.out rfl ?_ rfl rfl ?_ ?_
            rotate_left
            · intro w' hF; clear hF; go_simp; try rfl
            rotate_left
            · simp only [Act.put]; exact rfl
            refine Calm.take (i := 7) (v := ?_) (a' := ?_) (l' := #[true, true, true, true, true, true, true, true, true, true, false, false, false]) (d := some 16) rfl (by kernel_rfl) (by kernel_rfl) (by kernel_rfl) (by kernel_rfl) (fun _ _ _ h => h) HF.out rfl ?_ rfl rfl ?_ ?_
            rotate_left
            · intro w' hF; clear hF; go_simp; try rfl
            rotate_left
            · simp only [Act.put]; exact rfl
            refine Calm.one (i := 10) (l' := #[true, true, true, true, true, true, true, true, true, true, true, false, false]) (by kernel_rfl) rfl rfl rfl fun K hK => ?_
            have LTS := hide (And.intro LT1q.out (And.intro LT2q.out (And.intro LT1r.out (And.intro LT2r.out (show gq ≠ gr by first | exact Nat.ne_of_lt LTqr.out | exact Nat.ne_of_gt LTrq.out)))))
            have hc0 := BXq.out.cell0
            have hc1 := BXq.out.cell1
            have hf0 := BXq.out.free 0
            have hf1 := BXq.out.free 1
            go_simp
            have HF' := hide (And.intro (below_put HF.out.1 (show w.heap.size ≤ gq by have hx := LTS.out; omega) (.bool sq) (.slice mq kq cq)) (And.intro (HF.out.2.1.other (C := gq) (by have hx := LTS.out; omega) (.bool sq) (.slice mq kq cq)) (And.intro (HF.out.2.2.1.other (C := gq) (by have hx := LTS.out; omega) (.bool sq) (.slice mq kq cq)) (HF.out.2.2.2.keep (BXq.out.keeps (by simp) (by simp) (.bool sq) (.slice mq kq cq))))))
            replace TQ := hide (TQ.out.keep (BXq.out.keeps (by simp) (by simp) (.bool sq) (.slice mq kq cq)))
            replace TR := hide (TR.out.keep (BXq.out.keeps (by simp) (by simp) (.bool sq) (.slice mq kq cq)))
            replace BXr := hide (BXr.out.other (C := gq) (by have hx := LTS.out; omega) (.bool sq) (.slice mq kq cq))
            replace BXq := hide (BXq.out.put (.bool sq) (.slice mq kq cq))
            refine hK _ _ (fun _ => HF'.out) ?_
            clear hK K HF hc0 hf0 hc1 hf1
            have HF := hide HF'.out
            clear HF'
            generalize ((u2.setCell ⟨gq, 0, none⟩ (.bool sq)).setCell ⟨gq, 1, none⟩ (.slice mq kq cq)) = ws1 at *
            refine Calm.one (i := 11) (l' := #[true, true, true, true, true, true, true, true, true, true, true, true, false]) (by kernel_rfl) rfl rfl rfl fun K hK => ?_
            have hc0 := BXr.out.cell0
            have hc1 := BXr.out.cell1
            have hf0 := BXr.out.free 0
            have hf1 := BXr.out.free 1
            go_simp
            have HF' := hide (And.intro (below_put HF.out.1 (show w.heap.size ≤ gr by have hx := LTS.out; omega) (.bool sr) (.slice mr kr cr)) (And.intro (HF.out.2.1.other (C := gr) (by have hx := LTS.out; omega) (.bool sr) (.slice mr kr cr)) (And.intro (HF.out.2.2.1.other (C := gr) (by have hx := LTS.out; omega) (.bool sr) (.slice mr kr cr)) (HF.out.2.2.2.keep (BXr.out.keeps (by simp) (by simp) (.bool sr) (.slice mr kr cr))))))
            replace TQ := hide (TQ.out.keep (BXr.out.keeps (by simp) (by simp) (.bool sr) (.slice mr kr cr)))
            replace TR := hide (TR.out.keep (BXr.out.keeps (by simp) (by simp) (.bool sr) (.slice mr kr cr)))
            replace BXq := hide (BXq.out.other (C := gr) (by have hx := LTS.out; omega) (.bool sr) (.slice mr kr cr))
            replace BXr := hide (BXr.out.put (.bool sr) (.slice mr kr cr))
            refine hK _ _ (fun _ => HF'.out) ?_
            clear hK K HF hc0 hf0 hc1 hf1
            have HF := hide HF'.out
            clear HF'
            generalize ((ws1.setCell ⟨gr, 0, none⟩ (.bool sr)).setCell ⟨gr, 1, none⟩ (.slice mr kr cr)) = ws2 at *
            refine Calm.take (i := 12) (v := ?_) (a' := ?_) (l' := #[true, true, true, true, true, true, true, true, true, true, true, true, true]) (d := some 8) rfl (by kernel_rfl) (by kernel_rfl) (by kernel_rfl) (by kernel_rfl) (fun _ _ _ h => h) HF.out rfl ?_ rfl rfl ?_ ?_
            rotate_left
            · intro w' hF; clear hF; go_simp; try rfl
            rotate_left
            · simp only [Act.put]; exact rfl
            refine Calm.done (by kernel_rfl) ?_
            go_wp2
            go_meet
            case rel => exact ⟨gq, gr, sq, mq, kq, cq, sr, mr, kr, cr, rfl, rfl, rfl, LTS.out, HF.out.1, HF.out.2.1, HF.out.2.2.1, BXq.out, BXr.out, TQ.out, TR.out⟩
        · go_simp
          have al := below_alloc wzq (.cells #[.bool false, .slice none 0 0] 28)
          have HF' := hide (And.intro (HF.out.1.trans ((al).mono HF.out.1.size)) (And.intro (HF.out.2.1.step (al)) (And.intro (HF.out.2.2.1.step (al)) (HF.out.2.2.2.below (al)))))
          have BXr := hide (Box.new wzq (.bool false) (.slice none 0 0))
          have LTqr := hide (BXq.out.lt)
          replace BXq := hide (BXq.out.step al)
          have LT1r := hide (HF.out.2.1.lt)
          have LT2r := hide (HF.out.2.2.1.lt)
          have GEr := hide (HF.out.1.size)
          refine hK _ _ (fun _ => HF'.out) ?_
          clear hK K HF al
          have HF := hide HF'.out
          clear HF'
          generalize wzq.alloc (.cells #[.bool false, .slice none 0 0] 28) = wzr at *
          generalize wzq.heap.size = gr at *
          refine Calm.one (i := 2) (l' := #[true, true, true, false, false, false, false, false, true, true, false, false, false]) (by kernel_rfl) rfl rfl rfl fun K hK => ?_
          go_simp
          refine (iof_any c _ (by first | exact HL.out | decide) (by first | exact HH.out | decide)).mono ?_
          rintro e u1 ⟨v, rfl, n, hb⟩
          replace BXq := hide (BXq.out.step hb)
          replace BXr := hide (BXr.out.step hb)
          have HF' := hide (And.intro (HF.out.1.trans ((hb).mono HF.out.1.size)) (And.intro (HF.out.2.1.step (hb)) (And.intro (HF.out.2.2.1.step (hb)) (HF.out.2.2.2.below (hb)))))
          have TC := hide (n)
          refine hK _ _ (fun _ => HF'.out) ?_
          clear hK K HF hb n
          have HF := hide HF'.out
          clear HF'
          refine Calm.one (i := 3) (l' := #[true, true, true, true, false, false, false, false, true, true, false, false, false]) (by kernel_rfl) rfl rfl rfl fun K hK => ?_
          go_simp
          refine (idivmod_any _ _ x c _ HF.out.2.2.2 TC.out LX.out (SzI.len (SzI.word HL.out HH.out) (by decide)) HC.out).mono ?_
          rintro e u2 ⟨q, r, rfl, n, n', hb⟩
          obtain ⟨sq, mq, kq, cq, rfl, n⟩ := n.cells
          obtain ⟨sr, mr, kr, cr, rfl, n'⟩ := n'.cells
          clear TC
          replace BXq := hide (BXq.out.step hb)
          replace BXr := hide (BXr.out.step hb)
          have HF' := hide (And.intro (HF.out.1.trans ((hb).mono HF.out.1.size)) (And.intro (HF.out.2.1.step (hb)) (And.intro (HF.out.2.2.1.step (hb)) (HF.out.2.2.2.below (hb)))))
          have TQ := hide (n)
          have TR := hide (n')
          refine hK _ _ (fun _ => HF'.out) ?_
          clear hK K HF hb n n'
          have HF := hide HF'.out
          clear HF'
          refine Calm.take (i := 4) (v := ?_) (a' := ?_) (l' := #[true, true, true, true, true, false, false, false, true, true, false, false, false]) (d := some 9) rfl (by kernel_rfl) (by kernel_rfl) (by kernel_rfl) (by kernel_rfl) (fun _ _ _ h => h) HF.out rfl ?_ rfl rfl ?_ ?_
          rotate_left
          · intro w' hF; clear hF; go_simp; try rfl
          rotate_left
          · simp only [Act.put]; exact rfl
          refine Calm.take (i := 5) (v := ?_) (a' := ?_) (l' := #[true, true, true, true, true, true, false, false, true, true, false, false, false]) (d := some 14) rfl (by kernel_rfl) (by kernel_rfl) (by kernel_rfl) (by kernel_rfl) (fun _ _ _ h => h) HF.out rfl ?_ rfl rfl ?_ ?_
          rotate_left
          · intro w' hF; clear hF; go_simp; try rfl
          rotate_left
          · simp only [Act.put]; exact rfl
          refine Calm.take (i := 6) (v := ?_) (a' := ?_) (l' := #[true, true, true, true, true, true, true, false, true, true, false, false, false]) (d := some 15) rfl (by kernel_rfl) (by kernel_rfl) (by kernel_rfl) (by kernel_rfl) (fun _ _ _ h => h) HF.out rfl ?_ rfl rfl ?_ ?_
          rotate_left
          · intro w' hF; clear hF; go_simp; try rfl
          rotate_left
          · simp only [Act.put]; exact rfl
          refine Calm.take (i := 7) (v := ?_) (a' := ?_) (l' := #[true, true, true, true, true, true, true, true, true, true, false, false, false]) (d := some 16) rfl (by kernel_rfl) (by kernel_rfl) (by kernel_rfl) (by kernel_rfl) (fun _ _ _ h => h) HF.out rfl ?_ rfl rfl ?_ ?_
          rotate_left
          · intro w' hF; clear hF; go_simp; try rfl
          rotate_left
          · simp only [Act.put]; exact rfl
          refine Calm.one (i := 10) (l' := #[true, true, true, true, true, true, true, true, true, true, true, false, false]) (by kernel_rfl) rfl rfl rfl fun K hK => ?_
          have LTS := hide (And.intro LT1q.out (And.intro LT2q.out (And.intro LT1r.out (And.intro LT2r.out (show gq ≠ gr by first | exact Nat.ne_of_lt LTqr.out | exact Nat.ne_of_gt LTrq.out)))))
          have hc0 := BXq.out.cell0
          have hc1 := BXq.out.cell1
          have hf0 := BXq.out.free 0
          have hf1 := BXq.out.free 1
          go_simp
          have HF' := hide (And.intro (below_put HF.out.1 (show w.heap.size ≤ gq by have hx := LTS.out; omega) (.bool sq) (.slice mq kq cq)) (And.intro (HF.out.2.1.other (C := gq) (by have hx := LTS.out; omega) (.bool sq) (.slice mq kq cq)) (And.intro (HF.out.2.2.1.other (C := gq) (by have hx := LTS.out; omega) (.bool sq) (.slice mq kq cq)) (HF.out.2.2.2.keep (BXq.out.keeps (by simp) (by simp) (.bool sq) (.slice mq kq cq))))))
          replace TQ := hide (TQ.out.keep (BXq.out.keeps (by simp) (by simp) (.bool sq) (.slice mq kq cq)))
          replace TR := hide (TR.out.keep (BXq.out.keeps (by simp) (by simp) (.bool sq) (.slice mq kq cq)))
          replace BXr := hide (BXr.out.other (C := gq) (by have hx := LTS.out; omega) (.bool sq) (.slice mq kq cq))
          replace BXq := hide (BXq.out.put (.bool sq) (.slice mq kq cq))
          refine hK _ _ (fun _ => HF'.out) ?_
          clear hK K HF hc0 hf0 hc1 hf1
          have HF := hide HF'.out
          clear HF'
          generalize ((u2.setCell ⟨gq, 0, none⟩ (.bool sq)).setCell ⟨gq, 1, none⟩ (.slice mq kq cq)) = ws1 at *
          refine Calm.one (i := 11) (l' := #[true, true, true, true, true, true, true, true, true, true, true, true, false]) (by kernel_rfl) rfl rfl rfl fun K hK => ?_
          have hc0 := BXr.out.cell0
          have hc1 := BXr.out.cell1
          have hf0 := BXr.out.free 0
          have hf1 := BXr.out.free 1
          go_simp
          have HF' := hide (And.intro (below_put HF.out.1 (show w.heap.size ≤ gr by have hx := LTS.out; omega) (.bool sr) (.slice mr kr cr)) (And.intro (HF.out.2.1.other (C := gr) (by have hx := LTS.out; omega) (.bool sr) (.slice mr kr cr)) (And.intro (HF.out.2.2.1.other (C := gr) (by have hx := LTS.out; omega) (.bool sr) (.slice mr kr cr)) (HF.out.2.2.2.keep (BXr.out.keeps (by simp) (by simp) (.bool sr) (.slice mr kr cr))))))
          replace TQ := hide (TQ.out.keep (BXr.out.keeps (by simp) (by simp) (.bool sr) (.slice mr kr cr)))
          replace TR := hide (TR.out.keep (BXr.out.keeps (by simp) (by simp) (.bool sr) (.slice mr kr cr)))
          replace BXq := hide (BXq.out.other (C := gr) (by have hx := LTS.out; omega) (.bool sr) (.slice mr kr cr))
          replace BXr := hide (BXr.out.put (.bool sr) (.slice mr kr cr))
          refine hK _ _ (fun _ => HF'.out) ?_
          clear hK K HF hc0 hf0 hc1 hf1
          have HF := hide HF'.out
          clear HF'
          generalize ((ws1.setCell ⟨gr, 0, none⟩ (.bool sr)).setCell ⟨gr, 1, none⟩ (.slice mr kr cr)) = ws2 at *
          refine Calm.take (i := 12) (v := ?_) (a' := ?_) (l' := #[true, true, true, true, true, true, true, true, true, true, true, true, true]) (d := some 8) rfl (by kernel_rfl) (by kernel_rfl) (by kernel_rfl) (by kernel_rfl) (fun _ _ _ h => h) HF.out rfl ?_ rfl rfl ?_ ?_
          rotate_left
          · intro w' hF; clear hF; go_simp; try rfl
          rotate_left
          · simp only [Act.put]; exact rfl
          refine Calm.done (by kernel_rfl) ?_
          go_wp2
          go_meet
          case rel => exact ⟨gq, gr, sq, mq, kq, cq, sr, mr, kr, cr, rfl, rfl, rfl, LTS.out, HF.out.1, HF.out.2.1, HF.out.2.2.1, BXq.out, BXr.out, TQ.out, TR.out⟩
      · go_simp
        have al := below_alloc w0d (.cells #[.bool false, .slice none 0 0] 28)
        have HF' := hide (And.intro (HF.out.1.trans ((al).mono HF.out.1.size)) (And.intro (HF.out.2.1.step (al)) (And.intro (HF.out.2.2.1.step (al)) (HF.out.2.2.2.below (al)))))
        have BXr := hide (Box.new w0d (.bool false) (.slice none 0 0))
        have LT1r := hide (HF.out.2.1.lt)
        have LT2r := hide (HF.out.2.2.1.lt)
        have GEr := hide (HF.out.1.size)
        refine hK _ _ (fun _ => HF'.out) ?_
        clear hK K HF al
        have HF := hide HF'.out
        clear HF'
        generalize w0d.alloc (.cells #[.bool false, .slice none 0 0] 28) = wzr at *
        generalize w0d.heap.size = gr at *
        refine Calm.two (i := 2) (j := 8) (l := #[true, true, true, false, false, false, false, false, false, true, false, false, false]) (l' := #[true, true, false, false, false, false, false, false, true, true, false, false, false]) (by kernel_rfl) rfl rfl rfl rfl rfl rfl (fun K hK => ?_) (fun K hK => ?_)
        · go_simp
          refine (iof_any c _ (by first | exact HL.out | decide) (by first | exact HH.out | decide)).mono ?_
          rintro e u1 ⟨v, rfl, n, hb⟩
          replace BXr := hide (BXr.out.step hb)
          have HF' := hide (And.intro (HF.out.1.trans ((hb).mono HF.out.1.size)) (And.intro (HF.out.2.1.step (hb)) (And.intro (HF.out.2.2.1.step (hb)) (HF.out.2.2.2.below (hb)))))
          have TC := hide (n)
          refine hK _ _ (fun _ => HF'.out) ?_
          clear hK K HF hb n
          have HF := hide HF'.out
          clear HF'
          refine Calm.two (i := 3) (j := 8) (l := #[true, true, true, true, false, false, false, false, false, true, false, false, false]) (l' := #[true, true, true, false, false, false, false, false, true, true, false, false, false]) (by kernel_rfl) rfl rfl rfl rfl rfl rfl (fun K hK => ?_) (fun K hK => ?_)
          · go_simp
            refine (idivmod_any _ _ x c _ HF.out.2.2.2 TC.out LX.out (SzI.len (SzI.word HL.out HH.out) (by decide)) HC.out).mono ?_
            rintro e u2 ⟨q, r, rfl, n, n', hb⟩
            obtain ⟨sq, mq, kq, cq, rfl, n⟩ := n.cells
            obtain ⟨sr, mr, kr, cr, rfl, n'⟩ := n'.cells
            clear TC
            replace BXr := hide (BXr.out.step hb)
            have HF' := hide (And.intro (HF.out.1.trans ((hb).mono HF.out.1.size)) (And.intro (HF.out.2.1.step (hb)) (And.intro (HF.out.2.2.1.step (hb)) (HF.out.2.2.2.below (hb)))))
            have TQ := hide (n)
            have TR := hide (n')
            refine hK _ _ (fun _ => HF'.out) ?_
            clear hK K HF hb n n'
            have HF := hide HF'.out
            clear HF'
            refine Calm.take (i := 4) (v := ?_) (a' := ?_) (l' := #[true, true, true, true, true, false, false, false, false, true, false, false, false]) (d := some 9) rfl (by kernel_rfl) (by kernel_rfl) (by kernel_rfl) (by kernel_rfl) (fun _ _ _ h => h) HF.out rfl ?_ rfl rfl ?_ ?_
            rotate_left
            · intro w' hF; clear hF; go_simp; try rfl
            rotate_left
            · simp only [Act.put]; exact rfl
            refine Calm.take (i := 5) (v := ?_) (a' := ?_) (l' := #[true, true, true, true, true, true, false, false, false, true, false, false, false]) (d := some 14) rfl (by kernel_rfl) (by kernel_rfl) (by kernel_rfl) (by kernel_rfl) (fun _ _ _ h => h) HF.out rfl ?_ rfl rfl ?_ ?_
            rotate_left
            · intro w' hF; clear hF; go_simp; try rfl
            rotate_left
            · simp only [Act.put]; exact rfl
            refine Calm.take (i := 6) (v := ?_) (a' := ?_) (l' := #[true, true, true, true, true, true, true, false, false, true, false, false, false]) (d := some 15) rfl (by kernel_rfl) (by kernel_rfl) (by kernel_rfl) (by kernel_rfl) (fun _ _ _ h => h) HF.out rfl ?_ rfl rfl ?_ ?_
            rotate_left
            · intro w' hF; clear hF; go_simp; try rfl
            rotate_left
            · simp only [Act.put]; exact rfl
            refine Calm.take (i := 7) (v := ?_) (a' := ?_) (l' := #[true, true, true, true, true, true, true, true, false, true, false, false, false]) (d := some 16) rfl (by kernel_rfl) (by kernel_rfl) (by kernel_rfl) (by kernel_rfl) (fun _ _ _ h => h) HF.out rfl ?_ rfl rfl ?_ ?_
            rotate_left
            · intro w' hF; clear hF; go_simp; try rfl
            rotate_left
            · simp only [Act.put]; exact rfl
            refine Calm.one (i := 8) (l' := #[true, true, true, true, true, true, true, true, true, true, false, false, false]) (by kernel_rfl) rfl rfl rfl fun K hK => ?_
            go_simp
            have al := below_alloc u2 (.cells #[.bool false, .slice none 0 0] 28)
            have HF' := hide (And.intro (HF.out.1.trans ((al).mono HF.out.1.size)) (And.intro (HF.out.2.1.step (al)) (And.intro (HF.out.2.2.1.step (al)) (HF.out.2.2.2.below (al)))))
            have BXq := hide (Box.new u2 (.bool false) (.slice none 0 0))
            replace TQ := hide (TQ.out.below (al))
            replace TR := hide (TR.out.below (al))
            have LTrq := hide (BXr.out.lt)
            replace BXr := hide (BXr.out.step al)
            have LT1q := hide (HF.out.2.1.lt)
            have LT2q := hide (HF.out.2.2.1.lt)
            have GEq := hide (HF.out.1.size)
            refine hK _ _ (fun _ => HF'.out) ?_
            clear hK K HF al
            have HF := hide HF'.out
            clear HF'
            generalize u2.alloc (.cells #[.bool false, .slice none 0 0] 28) = wzq at *
            generalize u2.heap.size = gq at *
            refine Calm.one (i := 10) (l' := #[true, true, true, true, true, true, true, true, true, true, true, false, false]) (by kernel_rfl) rfl rfl rfl fun K hK => ?_
            have LTS := hide (And.intro LT1q.out (And.intro LT2q.out (And.intro LT1r.out (And.intro LT2r.out (show gq ≠ gr by first | exact Nat.ne_of_lt LTqr.out | exact Nat.ne_of_gt LTrq.out)))))
            have hc0 := BXq.out.cell0
            have hc1 := BXq.out.cell1
            have hf0 := BXq.out.free 0
            have hf1 := BXq.out.free 1
            go_simp
            have HF' := hide (And.intro (below_put HF.out.1 (show w.heap.size ≤ gq by have hx := LTS.out; omega) (.bool sq) (.slice mq kq cq)) (And.intro (HF.out.2.1.other (C := gq) (by have hx := LTS.out; omega) (.bool sq) (.slice mq kq cq)) (And.intro (HF.out.2.2.1.other (C := gq) (by have hx := LTS.out; omega) (.bool sq) (.slice mq kq cq)) (HF.out.2.2.2.keep (BXq.out.keeps (by simp) (by simp) (.bool sq) (.slice mq kq cq))))))
            replace TQ := hide (TQ.out.keep (BXq.out.keeps (by simp) (by simp) (.bool sq) (.slice mq kq cq)))
            replace TR := hide (TR.out.keep (BXq.out.keeps (by simp) (by simp) (.bool sq) (.slice mq kq cq)))
            replace BXr := hide (BXr.out.other (C := gq) (by have hx := LTS.out; omega) (.bool sq) (.slice mq kq cq))
            replace BXq := hide (BXq.out.put (.bool sq) (.slice mq kq cq))
            refine hK _ _ (fun _ => HF'.out) ?_
            clear hK K HF hc0 hf0 hc1 hf1
            have HF := hide HF'.out
            clear HF'
            generalize ((wzq.setCell ⟨gq, 0, none⟩ (.bool sq)).setCell ⟨gq, 1, none⟩ (.slice mq kq cq)) = ws1 at *
            refine Calm.one (i := 11) (l' := #[true, true, true, true, true, true, true, true, true, true, true, true, false]) (by kernel_rfl) rfl rfl rfl fun K hK => ?_
            have hc0 := BXr.out.cell0
            have hc1 := BXr.out.cell1
            have hf0 := BXr.out.free 0
            have hf1 := BXr.out.free 1
            go_simp
            have HF' := hide (And.intro (below_put HF.out.1 (show w.heap.size ≤ gr by have hx := LTS.out; omega) (.bool sr) (.slice mr kr cr)) (And.intro (HF.out.2.1.other (C := gr) (by have hx := LTS.out; omega) (.bool sr) (.slice mr kr cr)) (And.intro (HF.out.2.2.1.other (C := gr) (by have hx := LTS.out; omega) (.bool sr) (.slice mr kr cr)) (HF.out.2.2.2.keep (BXr.out.keeps (by simp) (by simp) (.bool sr) (.slice mr kr cr))))))
            replace TQ := hide (TQ.out.keep (BXr.out.keeps (by simp) (by simp) (.bool sr) (.slice mr kr cr)))
            replace TR := hide (TR.out.keep (BXr.out.keeps (by simp) (by simp) (.bool sr) (.slice mr kr cr)))
            replace BXq := hide (BXq.out.other (C := gr) (by have hx := LTS.out; omega) (.bool sr) (.slice mr kr cr))
            replace BXr := hide (BXr.out.put (.bool sr) (.slice mr kr cr))
            refine hK _ _ (fun _ => HF'.out) ?_
            clear hK K HF hc0 hf0 hc1 hf1
            have HF := hide HF'.out
            clear HF'
            generalize ((ws1.setCell ⟨gr, 0, none⟩ (.bool sr)).setCell ⟨gr, 1, none⟩ (.slice mr kr cr)) = ws2 at *
            refine Calm.take (i := 12) (v := ?_) (a' := ?_) (l' := #[true, true, true, true, true, true, true, true, true, true, true, true, true]) (d := some 8) rfl (by kernel_rfl) (by kernel_rfl) (by kernel_rfl) (by kernel_rfl) (fun _ _ _ h => h) HF.out rfl ?_ rfl rfl ?_ ?_
            rotate_left
            · intro w' hF; clear hF; go_simp; try rfl
            rotate_left
            · simp only [Act.put]; exact rfl
            refine Calm.done (by kernel_rfl) ?_
            go_wp2
            go_meet
            case rel => exact ⟨gq, gr, sq, mq, kq, cq, sr, mr, kr, cr, rfl, rfl, rfl, LTS.out, HF.out.1, HF.out.2.1, HF.out.2.2.1, BXq.out, BXr.out, TQ.out, TR.out⟩
          · go_simp
            have al := below_alloc u1 (.cells #[.bool false, .slice none 0 0] 28)
            have HF' := hide (And.intro (HF.out.1.trans ((al).mono HF.out.1.size)) (And.intro (HF.out.2.1.step (al)) (And.intro (HF.out.2.2.1.step (al)) (HF.out.2.2.2.below (al)))))
            have BXq := hide (Box.new u1 (.bool false) (.slice none 0 0))
            replace TC := hide (TC.out.below (al))
            have LTrq := hide (BXr.out.lt)
            replace BXr := hide (BXr.out.step al)
            have LT1q := hide (HF.out.2.1.lt)
            have LT2q := hide (HF.out.2.2.1.lt)
            have GEq := hide (HF.out.1.size)
            refine hK _ _ (fun _ => HF'.out) ?_
            clear hK K HF al
            have HF := hide HF'.out
            clear HF'
            generalize u1.alloc (.cells #[.bool false, .slice none 0 0] 28) = wzq at *
            generalize u1.heap.size = gq at *
            refine Calm.one (i := 3) (l' := #[true, true, true, true, false, false, false, false, true, true, false, false, false]) (by kernel_rfl) rfl rfl rfl fun K hK => ?_
            go_simp
            refine (idivmod_any _ _ x c _ HF.out.2.2.2 TC.out LX.out (SzI.len (SzI.word HL.out HH.out) (by decide)) HC.out).mono ?_
            rintro e u2 ⟨q, r, rfl, n, n', hb⟩
            obtain ⟨sq, mq, kq, cq, rfl, n⟩ := n.cells
            obtain ⟨sr, mr, kr, cr, rfl, n'⟩ := n'.cells
            clear TC
            replace BXr := hide (BXr.out.step hb)
            replace BXq := hide (BXq.out.step hb)
            have HF' := hide (And.intro (HF.out.1.trans ((hb).mono HF.out.1.size)) (And.intro (HF.out.2.1.step (hb)) (And.intro (HF.out.2.2.1.step (hb)) (HF.out.2.2.2.below (hb)))))
            have TQ := hide (n)
            have TR := hide (n')
            refine hK _ _ (fun _ => HF'.out) ?_
            clear hK K HF hb n n'
            have HF := hide HF'.out
            clear HF'
            refine Calm.take (i := 4) (v := ?_) (a' := ?_) (l' := #[true, true, true, true, true, false, false, false, true, true, false, false, false]) (d := some 9) rfl (by kernel_rfl) (by kernel_rfl) (by kernel_rfl) (by kernel_rfl) (fun _ _ _ h => h) HF.out rfl ?_ rfl rfl ?_ ?_
            rotate_left
            · intro w' hF; clear hF; go_simp; try rfl
            rotate_left
            · simp only [Act.put]; exact rfl
            refine Calm.take (i := 5) (v := ?_) (a' := ?_) (l' := #[true, true, true, true, true, true, false, false, true, true, false, false, false]) (d := some 14) rfl (by kernel_rfl) (by kernel_rfl) (by kernel_rfl) (by kernel_rfl) (fun _ _ _ h => h) HF.out rfl ?_ rfl rfl ?_ ?_
            rotate_left
            · intro w' hF; clear hF; go_simp; try rfl
            rotate_left
            · simp only [Act.put]; exact rfl
            refine Calm.take (i := 6) (v := ?_) (a' := ?_) (l' := #[true, true, true, true, true, true, true, false, true, true, false, false, false]) (d := some 15) rfl (by kernel_rfl) (by kernel_rfl) (by kernel_rfl) (by kernel_rfl) (fun _ _ _ h => h) HF.out rfl ?_ rfl rfl ?_ ?_
            rotate_left
            · intro w' hF; clear hF; go_simp; try rfl
            rotate_left
            · simp only [Act.put]; exact rfl
            refine Calm.take (i := 7) (v := ?_) (a' := ?_) (l' := #[true, true, true, true, true, true, true, true, true, true, false, false, false]) (d := some 16) rfl (by kernel_rfl) (by kernel_rfl) (by kernel_rfl) (by kernel_rfl) (fun _ _ _ h => h) HF.out rfl ?_ rfl rfl ?_ ?_
            rotate_left
            · intro w' hF; clear hF; go_simp; try rfl
            rotate_left
            · simp only [Act.put]; exact rfl
            refine Calm.one (i := 10) (l' := #[true, true, true, true, true, true, true, true, true, true, true, false, false]) (by kernel_rfl) rfl rfl rfl fun K hK => ?_
            have LTS := hide (And.intro LT1q.out (And.intro LT2q.out (And.intro LT1r.out (And.intro LT2r.out (show gq ≠ gr by first | exact Nat.ne_of_lt LTqr.out | exact Nat.ne_of_gt LTrq.out)))))
            have hc0 := BXq.out.cell0
            have hc1 := BXq.out.cell1
            have hf0 := BXq.out.free 0
            have hf1 := BXq.out.free 1
            go_simp
            have HF' := hide (And.intro (below_put HF.out.1 (show w.heap.size ≤ gq by have hx := LTS.out; omega) (.bool sq) (.slice mq kq cq)) (And.intro (HF.out.2.1.other (C := gq) (by have hx := LTS.out; omega) (.bool sq) (.slice mq kq cq)) (And.intro (HF.out.2.2.1.other (C := gq) (by have hx := LTS.out; omega) (.bool sq) (.slice mq kq cq)) (HF.out.2.2.2.keep (BXq.out.keeps (by simp) (by simp) (.bool sq) (.slice mq kq cq))))))
            replace TQ := hide (TQ.out.keep (BXq.out.keeps (by simp) (by simp) (.bool sq) (.slice mq kq cq)))
            replace TR := hide (TR.out.keep (BXq.out.keeps (by simp) (by simp) (.bool sq) (.slice mq kq cq)))
            replace BXr := hide (BXr.out.other (C := gq) (by have hx := LTS.out; omega) (.bool sq) (.slice mq kq cq))
            replace BXq := hide (BXq.out.put (.bool sq) (.slice mq kq cq))
            refine hK _ _ (fun _ => HF'.out) ?_
            clear hK K HF hc0 hf0 hc1 hf1
            have HF := hide HF'.out
            clear HF'
            generalize ((u2.setCell ⟨gq, 0, none⟩ (.bool sq)).setCell ⟨gq, 1, none⟩ (.slice mq kq cq)) = ws1 at *
            refine Calm.one (i := 11) (l' := #[true, true, true, true, true, true, true, true, true, true, true, true, false]) (by kernel_rfl) rfl rfl rfl fun K hK => ?_
            have hc0 := BXr.out.cell0
            have hc1 := BXr.out.cell1
            have hf0 := BXr.out.free 0
            have hf1 := BXr.out.free 1
            go_simp
            have HF' := hide (And.intro (below_put HF.out.1 (show w.heap.size ≤ gr by have hx := LTS.out; omega) (.bool sr) (.slice mr kr cr)) (And.intro (HF.out.2.1.other (C := gr) (by have hx := LTS.out; omega) (.bool sr) (.slice mr kr cr)) (And.intro (HF.out.2.2.1.other (C := gr) (by have hx := LTS.out; omega) (.bool sr) (.slice mr kr cr)) (HF.out.2.2.2.keep (BXr.out.keeps (by simp) (by simp) (.bool sr) (.slice mr kr cr))))))
            replace TQ := hide (TQ.out.keep (BXr.out.keeps (by simp) (by simp) (.bool sr) (.slice mr kr cr)))
            replace TR := hide (TR.out.keep (BXr.out.keeps (by simp) (by simp) (.bool sr) (.slice mr kr cr)))
            replace BXq := hide (BXq.out.other (C := gr) (by have hx := LTS.out; omega) (.bool sr) (.slice mr kr cr))
            replace BXr := hide (BXr.out.put (.bool sr) (.slice mr kr cr))
            refine hK _ _ (fun _ => HF'.out) ?_
            clear hK K HF hc0 hf0 hc1 hf1
            have HF := hide HF'.out
            clear HF'
            generalize ((ws1.setCell ⟨gr, 0, none⟩ (.bool sr)).setCell ⟨gr, 1, none⟩ (.slice mr kr cr)) = ws2 at *
            refine Calm.take (i := 12) (v := ?_) (a' := ?_) (l' := #[true, true, true, true, true, true, true, true, true, true, true, true, true]) (d := some 8) rfl (by kernel_rfl) (by kernel_rfl) (by kernel_rfl) (by kernel_rfl) (fun _ _ _ h => h) HF.out rfl ?_ rfl rfl ?_ ?_
            rotate_left
            · intro w' hF; clear hF; go_simp; try rfl
            rotate_left
            · simp only [Act.put]; exact rfl
            refine Calm.done (by kernel_rfl) ?_
            go_wp2
            go_meet
            case rel => exact ⟨gq, gr, sq, mq, kq, cq, sr, mr, kr, cr, rfl, rfl, rfl, LTS.out, HF.out.1, HF.out.2.1, HF.out.2.2.1, BXq.out, BXr.out, TQ.out, TR.out⟩
        · go_simp
          have al := below_alloc wzr (.cells #[.bool false, .slice none 0 0] 28)
          have HF' := hide (And.intro (HF.out.1.trans ((al).mono HF.out.1.size)) (And.intro (HF.out.2.1.step (al)) (And.intro (HF.out.2.2.1.step (al)) (HF.out.2.2.2.below (al)))))
          have BXq := hide (Box.new wzr (.bool false) (.slice none 0 0))
          have LTrq := hide (BXr.out.lt)
          replace BXr := hide (BXr.out.step al)
          have LT1q := hide (HF.out.2.1.lt)
          have LT2q := hide (HF.out.2.2.1.lt)
          have GEq := hide (HF.out.1.size)
          refine hK _ _ (fun _ => HF'.out) ?_
          clear hK K HF al
          have HF := hide HF'.out
          clear HF'
          generalize wzr.alloc (.cells #[.bool false, .slice none 0 0] 28) = wzq at *
          generalize wzr.heap.size = gq at *
          refine Calm.one (i := 2) (l' := #[true, true, true, false, false, false, false, false, true, true, false, false, false]) (by kernel_rfl) rfl rfl rfl fun K hK => ?_
          go_simp
          refine (iof_any c _ (by first | exact HL.out | decide) (by first | exact HH.out | decide)).mono ?_
          rintro e u1 ⟨v, rfl, n, hb⟩
          replace BXr := hide (BXr.out.step hb)
          replace BXq := hide (BXq.out.step hb)
          have HF' := hide (And.intro (HF.out.1.trans ((hb).mono HF.out.1.size)) (And.intro (HF.out.2.1.step (hb)) (And.intro (HF.out.2.2.1.step (hb)) (HF.out.2.2.2.below (hb)))))
          have TC := hide (n)
          refine hK _ _ (fun _ => HF'.out) ?_
          clear hK K HF hb n
          have HF := hide HF'.out
          clear HF'
          refine Calm.one (i := 3) (l' := #[true, true, true, true, false, false, false, false, true, true, false, false, false]) (by kernel_rfl) rfl rfl rfl fun K hK => ?_
          go_simp
          refine (idivmod_any _ _ x c _ HF.out.2.2.2 TC.out LX.out (SzI.len (SzI.word HL.out HH.out) (by decide)) HC.out).mono ?_
          rintro e u2 ⟨q, r, rfl, n, n', hb⟩
          obtain ⟨sq, mq, kq, cq, rfl, n⟩ := n.cells
          obtain ⟨sr, mr, kr, cr, rfl, n'⟩ := n'.cells
          clear TC
          replace BXr := hide (BXr.out.step hb)
          replace BXq := hide (BXq.out.step hb)
          have HF' := hide (And.intro (HF.out.1.trans ((hb).mono HF.out.1.size)) (And.intro (HF.out.2.1.step (hb)) (And.intro (HF.out.2.2.1.step (hb)) (HF.out.2.2.2.below (hb)))))
          have TQ := hide (n)
          have TR := hide (n')
          refine hK _ _ (fun _ => HF'.out) ?_
          clear hK K HF hb n n'
          have HF := hide HF'.out
          clear HF'
          refine Calm.take (i := 4) (v := ?_) (a' := ?_) (l' := #[true, true, true, true, true, false, false, false, true, true, false, false, false]) (d := some 9) rfl (by kernel_rfl) (by kernel_rfl) (by kernel_rfl) (by kernel_rfl) (fun _ _ _ h => h) HF.out rfl ?_ rfl rfl ?_ ?_
          rotate_left
          · intro w' hF; clear hF; go_simp; try rfl
          rotate_left
          · simp only [Act.put]; exact rfl
          refine Calm.take (i := 5) (v := ?_) (a' := ?_) (l' := #[true, true, true, true, true, true, false, false, true, true, false, false, false]) (d := some 14) rfl (by kernel_rfl) (by kernel_rfl) (by kernel_rfl) (by kernel_rfl) (fun _ _ _ h => h) HF.out rfl ?_ rfl rfl ?_ ?_
          rotate_left
          · intro w' hF; clear hF; go_simp; try rfl
          rotate_left
          · simp only [Act.put]; exact rfl
          refine Calm.take (i := 6) (v := ?_) (a' := ?_) (l' := #[true, true, true, true, true, true, true, false, true, true, false, false, false]) (d := some 15) rfl (by kernel_rfl) (by kernel_rfl) (by kernel_rfl) (by kernel_rfl) (fun _ _ _ h => h) HF.out rfl ?_ rfl rfl ?_ ?_
          rotate_left
          · intro w' hF; clear hF; go_simp; try rfl
          rotate_left
          · simp only [Act.put]; exact rfl
          refine Calm.take (i := 7) (v := ?_) (a' := ?_) (l' := #[true, true, true, true, true, true, true, true, true, true, false, false, false]) (d := some 16) rfl (by kernel_rfl) (by kernel_rfl) (by kernel_rfl) (by kernel_rfl) (fun _ _ _ h => h) HF.out rfl ?_ rfl rfl ?_ ?_
          rotate_left
          · intro w' hF; clear hF; go_simp; try rfl
          rotate_left
          · simp only [Act.put]; exact rfl
          refine Calm.one (i := 10) (l' := #[true, true, true, true, true, true, true, true, true, true, true, false, false]) (by kernel_rfl) rfl rfl rfl fun K hK => ?_
          have LTS := hide (And.intro LT1q.out (And.intro LT2q.out (And.intro LT1r.out (And.intro LT2r.out (show gq ≠ gr by first | exact Nat.ne_of_lt LTqr.out | exact Nat.ne_of_gt LTrq.out)))))
          have hc0 := BXq.out.cell0
          have hc1 := BXq.out.cell1
          have hf0 := BXq.out.free 0
          have hf1 := BXq.out.free 1
          go_simp
          have HF' := hide (And.intro (below_put HF.out.1 (show w.heap.size ≤ gq by have hx := LTS.out; omega) (.bool sq) (.slice mq kq cq)) (And.intro (HF.out.2.1.other (C := gq) (by have hx := LTS.out; omega) (.bool sq) (.slice mq kq cq)) (And.intro (HF.out.2.2.1.other (C := gq) (by have hx := LTS.out; omega) (.bool sq) (.slice mq kq cq)) (HF.out.2.2.2.keep (BXq.out.keeps (by simp) (by simp) (.bool sq) (.slice mq kq cq))))))
          replace TQ := hide (TQ.out.keep (BXq.out.keeps (by simp) (by simp) (.bool sq) (.slice mq kq cq)))
          replace TR := hide (TR.out.keep (BXq.out.keeps (by simp) (by simp) (.bool sq) (.slice mq kq cq)))
          replace BXr := hide (BXr.out.other (C := gq) (by have hx := LTS.out; omega) (.bool sq) (.slice mq kq cq))
          replace BXq := hide (BXq.out.put (.bool sq) (.slice mq kq cq))
          refine hK _ _ (fun _ => HF'.out) ?_
          clear hK K HF hc0 hf0 hc1 hf1
          have HF := hide HF'.out
          clear HF'
          generalize ((u2.setCell ⟨gq, 0, none⟩ (.bool sq)).setCell ⟨gq, 1, none⟩ (.slice mq kq cq)) = ws1 at *
          refine Calm.one (i := 11) (l' := #[true, true, true, true, true, true, true, true, true, true, true, true, false]) (by kernel_rfl) rfl rfl rfl fun K hK => ?_
          have hc0 := BXr.out.cell0
          have hc1 := BXr.out.cell1
          have hf0 := BXr.out.free 0
          have hf1 := BXr.out.free 1
          go_simp
          have HF' := hide (And.intro (below_put HF.out.1 (show w.heap.size ≤ gr by have hx := LTS.out; omega) (.bool sr) (.slice mr kr cr)) (And.intro (HF.out.2.1.other (C := gr) (by have hx := LTS.out; omega) (.bool sr) (.slice mr kr cr)) (And.intro (HF.out.2.2.1.other (C := gr) (by have hx := LTS.out; omega) (.bool sr) (.slice mr kr cr)) (HF.out.2.2.2.keep (BXr.out.keeps (by simp) (by simp) (.bool sr) (.slice mr kr cr))))))
          replace TQ := hide (TQ.out.keep (BXr.out.keeps (by simp) (by simp) (.bool sr) (.slice mr kr cr)))
          replace TR := hide (TR.out.keep (BXr.out.keeps (by simp) (by simp) (.bool sr) (.slice mr kr cr)))
          replace BXq := hide (BXq.out.other (C := gr) (by have hx := LTS.out; omega) (.bool sr) (.slice mr kr cr))
          replace BXr := hide (BXr.out.put (.bool sr) (.slice mr kr cr))
          refine hK _ _ (fun _ => HF'.out) ?_
          clear hK K HF hc0 hf0 hc1 hf1
          have HF := hide HF'.out
          clear HF'
          generalize ((ws1.setCell ⟨gr, 0, none⟩ (.bool sr)).setCell ⟨gr, 1, none⟩ (.slice mr kr cr)) = ws2 at *
          refine Calm.take (i := 12) (v := ?_) (a' := ?_) (l' := #[true, true, true, true, true, true, true, true, true, true, true, true, true]) (d := some 8) rfl (by kernel_rfl) (by kernel_rfl) (by kernel_rfl) (by kernel_rfl) (fun _ _ _ h => h) HF.out rfl ?_ rfl rfl ?_ ?_
          rotate_left
          · intro w' hF; clear hF; go_simp; try rfl
          rotate_left
          · simp only [Act.put]; exact rfl
          refine Calm.done (by kernel_rfl) ?_
          go_wp2
          go_meet
          case rel => exact ⟨gq, gr, sq, mq, kq, cq, sr, mr, kr, cr, rfl, rfl, rfl, LTS.out, HF.out.1, HF.out.2.1, HF.out.2.2.1, BXq.out, BXr.out, TQ.out, TR.out⟩
    case rest =>
      obtain ⟨gq, gr, sq, mq, kq, cq, sr, mr, kr, cr, rfl, rfl, rfl, hlts, hB, h1, h2, hq, hr, hiq, hir⟩ := hcut
      have LTS := hide hlts
      clear HB P0 P1 I1
      have HB := hide hB
      have P1 := hide h2
      have PQ := hide hq
      have PR := hide hr
      have IQ := hide hiq
      have IR := hide hir
      clear hlts hB h1 h2 hq hr hiq hir
      generalize hwc : wc = w5 at *
      clear hwc
      have r0 := PR.out.cell0
      have r1 := PR.out.cell1
      go_wp2_with fail
      clear r0 r1
      refine (isign_any _ (x % c) _ IR.out).mono ?_
      rintro e w6 ⟨rfl, hb⟩
      replace HB := hide (HB.out.trans (hb.mono HB.out.size))
      replace IQ := hide (IQ.out.below hb)
      replace P1 := hide (P1.out.step hb)
      replace PQ := hide (PQ.out.step hb)
      clear hb IR PR
      have hc0 := P1.out.cell0
      have hc1 := P1.out.cell1
      have hf0 := P1.out.free 0
      have hf1 := P1.out.free 1
      by_cases hz : x % c = 0
      · have SG : sgnI (x % c) = 0 := by rw [hz]; rfl
        rw [SG]
        have HZ := hide hz
        clear hz SG
        have q0 := PQ.out.cell0
        have q1 := PQ.out.cell1
        go_wp2
        refine ret_one rfl (w.heap.size + 1) _ _ rfl (P1.out.put _ _) rfl ?_
        exact ⟨_, _, _, rfl, IQ.out.keep (P1.out.keeps (by simp) (by simp) _ _), Or.inr (.inr ⟨HC.out, HZ.out, rfl, rfl⟩), below_put HB.out (Nat.le_succ _) _ _⟩
      · have SG : (sgnI (x % c) == 0) = false := by rw [beq_eq_false_iff_ne]; unfold sgnI; split <;> (try split) <;> omega
        have HZ := hide hz
        clear hz
        generalize sgnI (x % c) = sg0 at *
        go_wp2
        refine ret_one rfl (w.heap.size + 1) _ _ rfl (P1.out.put _ _) rfl ?_
        exact ⟨_, _, _, rfl, int_zero _, Or.inr (.inl ⟨HC.out, HZ.out, rfl, rfl⟩), below_put HB.out (Nat.le_succ _) _ _⟩
end Go.Proofs.Ythlkfiocmahmoaa
