/- The document's answers for layer 2 (swageref02): Gcd. -/
import Derived.Test.YtbaicocncalfaaaR2Over
import Derived.RegionTactic
namespace Go.Proofs.Ytbaicocncalfaaa
open Go.RowKit

/-- the number whose digits lie over a slice -/
def dnumOf (w : World) : Value → Nat
  | .slice (some a) n _ => D.val ((List.range n).map fun i => match w.cell? ⟨a.block, a.off + i, none⟩ with
    | some (.int _ z) => z.toNat
    | _ => 0)
  | _ => 0
theorem Nums.dnumOf {w : World} {v : Value} {xs : List Nat} (h : Nums w v xs) : dnumOf w v = D.val xs := by
  rcases h.cases with ⟨rfl, a, cap, rfl, _⟩ | ⟨hpos, b, off, cap, rfl, hl, hm, hb, hc⟩
  · cases a <;> rfl
  · show D.val ((List.range xs.length).map _) = D.val xs
    congr 1
    apply List.ext_getElem (by simp)
    intro i h1 h2
    simp only [List.getElem_map, List.getElem_range]
    rw [hc i h2]
    simp [lm_get _ _ h2]
/-- the number that a variable of the document's holds, without its sign -/
def dnumAt (w : World) (g : Nat) : Nat := dnumOf w ((w.cell? ⟨g, 1, none⟩).getD undef)
theorem dnumAt_eq {w : World} {g : Nat} {s : Bool} {m : Option Addr} {n c k : Nat} (h : Box2 w g 30 (.bool s) (.slice m n c)) (i : RInt w (.agg #[.bool s, .slice m n c]) (k : Int)) : dnumAt w g = k := by
  unfold dnumAt
  rw [h.cell1]
  obtain ⟨b, j, a, c', he, hn, hz, h0⟩ := i
  simp only [Value.agg.injEq, Array.mk.injEq, List.cons.injEq, Value.bool.injEq, Value.slice.injEq, and_true] at he
  obtain ⟨rfl, rfl, rfl, rfl⟩ := he
  rw [Option.getD_some, hn.dnumOf, D.val_lim]
  have := congrArg Int.natAbs hz
  rw [sg_abs] at this
  simpa using this.symm
theorem Box2.drew' {w : World} {g : Nat} {t : TypeId} {x y : Value} (h : Box2 w g t x y) : Box2 w.drew g t x y := h

set_option maxRecDepth 100000 in
set_option maxHeartbeats 8000000 in
theorem rgcd_any (v1 v2 : Value) (x y : Int) (w : World) (h1 : RInt w v1 x) (h2 : RInt w v2 y) (l1 : (D.lim x.natAbs).length ≤ 10000000) (l2 : (D.lim y.natAbs).length ≤ 10000000) :
    Calls Try.prog 54 #[v1, v2] w fun e w' => ∃ v, e = .returned v ∧ RInt w' v (Int.gcd x y : Int) ∧ Below w.heap.size w w' := by
  obtain ⟨s1, a1, L1, c1, rfl, i1⟩ := h1.cells
  obtain ⟨s2, a2, L2, c2, rfl, i2⟩ := h2.cells
  have HE := hide (nboxes3 30 w (.bool s1) (.slice a1 L1 c1) (.bool s2) (.slice a2 L2 c2) (.bool false) (.slice none 0 0))
  have I1 := hide (i1.below HE.out.2.2.2)
  have I2 := hide (i2.below HE.out.2.2.2)
  have HB := hide HE.out.2.2.2
  have P0 := hide HE.out.1
  have P1 := hide HE.out.2.1
  have P2 := hide HE.out.2.2.1
  clear h1 h2 i1 i2 HE
  go_enter Try.func54, Try.ntmps54
  go_wp2_with fail
  generalize ((w.alloc (.cells #[.bool s1, .slice a1 L1 c1] 30)).alloc (.cells #[.bool s2, .slice a2 L2 c2] 30)).alloc (.cells #[.bool false, .slice none 0 0] 30) = w0 at *
  go_cut [5, 6] from 9 (fun pq pr wx => ∃ gq gr sa ma la ka sb mb lb kb, pq = .pointer (some ⟨gq, 0, none⟩) ∧ pr = .pointer (some ⟨gr, 0, none⟩) ∧ (w.heap.size < gq ∧ (w.heap.size + 1) < gq ∧ (w.heap.size + 1 + 1) < gq ∧ w.heap.size < gr ∧ (w.heap.size + 1) < gr ∧ (w.heap.size + 1 + 1) < gr ∧ gq ≠ gr) ∧ Below w.heap.size w wx ∧ Box2 wx (w.heap.size + 1 + 1) 30 (.bool false) (.slice none 0 0) ∧ Box2 wx gq 30 (.bool sa) (.slice ma la ka) ∧ Box2 wx gr 30 (.bool sb) (.slice mb lb kb) ∧ RInt wx (.agg #[.bool sa, .slice ma la ka]) (x.natAbs : Int) ∧ RInt wx (.agg #[.bool sb, .slice mb lb kb]) (y.natAbs : Int))
  case first =>
    refine wp_calm (fun w' => Below w.heap.size w w' ∧ Box2 w' w.heap.size 30 (.bool s1) (.slice a1 L1 c1) ∧ Box2 w' (w.heap.size + 1) 30 (.bool s2) (.slice a2 L2 c2) ∧ Box2 w' (w.heap.size + 1 + 1) 30 (.bool false) (.slice none 0 0) ∧ RInt w' (.agg #[.bool s1, .slice a1 L1 c1]) x ∧ RInt w' (.agg #[.bool s2, .slice a2 L2 c2]) y) (fun _ => true) 8 #[false, false, false, false, false, false, false, false] (by kernel_rfl) rfl rfl ?_
    have HF := hide (And.intro (HB.out.drew) (And.intro (P0.out.drew) (And.intro (P1.out.drew) (And.intro (P2.out.drew) (And.intro (I1.out.drew) (I2.out.drew))))))
    generalize w0.drew = w0d at *
    refine Calm.take (i := 0) (v := ?_) (a' := ?_) (l' := #[true, false, false, false, false, false, false, false]) (d := some 9) rfl (by kernel_rfl) (by kernel_rfl) (by kernel_rfl) (by kernel_rfl) (fun _ _ _ h => h) HF.out rfl ?_ rfl rfl ?_ ?_
    rotate_left
    · intro w' hF; have f10 := hF.2.1.cell0; have f11 := hF.2.1.cell1; have f20 := hF.2.2.1.cell0; have f21 := hF.2.2.1.cell1; have f30 := hF.2.2.2.1.cell0; have f31 := hF.2.2.2.1.cell1; clear hF; go_simp; try rfl
    rotate_left
    · simp only [Act.put]; exact rfl
    refine Calm.take (i := 2) (v := ?_) (a' := ?_) (l' := #[true, false, true, false, false, false, false, false]) (d := some 11) rfl (by kernel_rfl) (by kernel_rfl) (by kernel_rfl) (by kernel_rfl) (fun _ _ _ h => h) HF.out rfl ?_ rfl rfl ?_ ?_
    rotate_left
    · intro w' hF; have f10 := hF.2.1.cell0; have f11 := hF.2.1.cell1; have f20 := hF.2.2.1.cell0; have f21 := hF.2.2.1.cell1; have f30 := hF.2.2.2.1.cell0; have f31 := hF.2.2.2.1.cell1; clear hF; go_simp; try rfl
    rotate_left
    · simp only [Act.put]; exact rfl
    refine Calm.three (i := 1) (j := 4) (m := 5) (l := #[true, true, true, false, false, false, false, false]) (l' := #[true, false, true, false, true, false, false, false]) (l'' := #[true, false, true, false, false, true, false, false]) (by kernel_rfl) rfl rfl rfl rfl rfl rfl rfl rfl rfl (fun K hK => ?_) (fun K hK => ?_) (fun K hK => ?_)
    · go_simp
      refine (rabs_any _ x _ HF.out.2.2.2.2.1).mono ?_
      rintro e u1 ⟨v, rfl, n, hb⟩
      obtain ⟨sa, ma, la, ka, rfl, n⟩ := n.cells
      have HF' := hide (And.intro (HF.out.1.trans ((hb).mono HF.out.1.size)) (And.intro (HF.out.2.1.step (hb)) (And.intro (HF.out.2.2.1.step (hb)) (And.intro (HF.out.2.2.2.1.step (hb)) (And.intro (HF.out.2.2.2.2.1.below (hb)) (HF.out.2.2.2.2.2.below (hb)))))))
      have TA := hide (n)
      refine hK _ _ (fun _ => HF'.out) ?_
      clear hK K HF hb n
      have HF := hide HF'.out
      clear HF'
      refine Calm.three (i := 3) (j := 4) (m := 5) (l := #[true, true, true, true, false, false, false, false]) (l' := #[true, true, true, false, true, false, false, false]) (l'' := #[true, true, true, false, false, true, false, false]) (by kernel_rfl) rfl rfl rfl rfl rfl rfl rfl rfl rfl (fun K hK => ?_) (fun K hK => ?_) (fun K hK => ?_)
      · go_simp
        refine (rabs_any _ y _ HF.out.2.2.2.2.2).mono ?_
        rintro e u2 ⟨v, rfl, n, hb⟩
        obtain ⟨sb, mb, lb, kb, rfl, n⟩ := n.cells
        replace TA := hide (TA.out.below (hb))
        have HF' := hide (And.intro (HF.out.1.trans ((hb).mono HF.out.1.size)) (And.intro (HF.out.2.1.step (hb)) (And.intro (HF.out.2.2.1.step (hb)) (And.intro (HF.out.2.2.2.1.step (hb)) (And.intro (HF.out.2.2.2.2.1.below (hb)) (HF.out.2.2.2.2.2.below (hb)))))))
        have TB := hide (n)
        refine hK _ _ (fun _ => HF'.out) ?_
        clear hK K HF hb n
        have HF := hide HF'.out
        clear HF'
        refine Calm.two (i := 4) (j := 5) (l := #[true, true, true, true, true, false, false, false]) (l' := #[true, true, true, true, false, true, false, false]) (by kernel_rfl) rfl rfl rfl rfl rfl rfl (fun K hK => ?_) (fun K hK => ?_)
        · go_simp
          have al := below_alloc u2 (.cells #[.bool false, .slice none 0 0] 30)
          have HF' := hide (And.intro (HF.out.1.trans ((al).mono HF.out.1.size)) (And.intro (HF.out.2.1.step (al)) (And.intro (HF.out.2.2.1.step (al)) (And.intro (HF.out.2.2.2.1.step (al)) (And.intro (HF.out.2.2.2.2.1.below (al)) (HF.out.2.2.2.2.2.below (al)))))))
          have BXq := hide (Box2.new u2 30 (.bool false) (.slice none 0 0))
          replace TA := hide (TA.out.below (al))
          replace TB := hide (TB.out.below (al))
          have LT1q := hide (HF.out.2.1.lt)
          have LT2q := hide (HF.out.2.2.1.lt)
          have LT3q := hide (HF.out.2.2.2.1.lt)
          have GEq := hide (HF.out.1.size)
          refine hK _ _ (fun _ => HF'.out) ?_
          clear hK K HF al
          have HF := hide HF'.out
          clear HF'
          generalize u2.alloc (.cells #[.bool false, .slice none 0 0] 30) = wzq at *
          generalize u2.heap.size = gq at *
          refine Calm.one (i := 5) (l' := #[true, true, true, true, true, true, false, false]) (by kernel_rfl) rfl rfl rfl fun K hK => ?_
          go_simp
          have al := below_alloc wzq (.cells #[.bool false, .slice none 0 0] 30)
          have HF' := hide (And.intro (HF.out.1.trans ((al).mono HF.out.1.size)) (And.intro (HF.out.2.1.step (al)) (And.intro (HF.out.2.2.1.step (al)) (And.intro (HF.out.2.2.2.1.step (al)) (And.intro (HF.out.2.2.2.2.1.below (al)) (HF.out.2.2.2.2.2.below (al)))))))
          have BXr := hide (Box2.new wzq 30 (.bool false) (.slice none 0 0))
          replace TA := hide (TA.out.below (al))
          replace TB := hide (TB.out.below (al))
          have LTqr := hide (BXq.out.lt)
          replace BXq := hide (BXq.out.step al)
          have LT1r := hide (HF.out.2.1.lt)
          have LT2r := hide (HF.out.2.2.1.lt)
          have LT3r := hide (HF.out.2.2.2.1.lt)
          have GEr := hide (HF.out.1.size)
          refine hK _ _ (fun _ => HF'.out) ?_
          clear hK K HF al
          have HF := hide HF'.out
          clear HF'
          generalize wzq.alloc (.cells #[.bool false, .slice none 0 0] 30) = wzr at *
          generalize wzq.heap.size = gr at *
          refine Calm.one (i := 6) (l' := #[true, true, true, true, true, true, true, false]) (by kernel_rfl) rfl rfl rfl fun K hK => ?_
          have LTS := hide (And.intro LT1q.out (And.intro LT2q.out (And.intro LT3q.out (And.intro LT1r.out (And.intro LT2r.out (And.intro LT3r.out (show gq ≠ gr by first | exact Nat.ne_of_lt LTqr.out | exact Nat.ne_of_gt LTrq.out)))))))
          have hc0 := BXq.out.cell0
          have hc1 := BXq.out.cell1
          have hf0 := BXq.out.free 0
          have hf1 := BXq.out.free 1
          go_simp
          have HF' := hide (And.intro (below_put HF.out.1 (show w.heap.size ≤ gq by have hx := LTS.out; omega) (.bool sa) (.slice ma la ka)) (And.intro (HF.out.2.1.other (C := gq) (by have hx := LTS.out; omega) (.bool sa) (.slice ma la ka)) (And.intro (HF.out.2.2.1.other (C := gq) (by have hx := LTS.out; omega) (.bool sa) (.slice ma la ka)) (And.intro (HF.out.2.2.2.1.other (C := gq) (by have hx := LTS.out; omega) (.bool sa) (.slice ma la ka)) (And.intro (HF.out.2.2.2.2.1.keep (BXq.out.keeps (by simp) (by simp) (.bool sa) (.slice ma la ka))) (HF.out.2.2.2.2.2.keep (BXq.out.keeps (by simp) (by simp) (.bool sa) (.slice ma la ka))))))))
          replace TA := hide (TA.out.keep (BXq.out.keeps (by simp) (by simp) (.bool sa) (.slice ma la ka)))
          replace TB := hide (TB.out.keep (BXq.out.keeps (by simp) (by simp) (.bool sa) (.slice ma la ka)))
          replace BXr := hide (BXr.out.other (C := gq) (by have hx := LTS.out; omega) (.bool sa) (.slice ma la ka))
          replace BXq := hide (BXq.out.put (.bool sa) (.slice ma la ka))
          refine hK _ _ (fun _ => HF'.out) ?_
          clear hK K HF hc0 hf0 hc1 hf1
          have HF := hide HF'.out
          clear HF'
          generalize ((wzr.setCell ⟨gq, 0, none⟩ (.bool sa)).setCell ⟨gq, 1, none⟩ (.slice ma la ka)) = ws1 at *
          refine Calm.one (i := 7) (l' := #[true, true, true, true, true, true, true, true]) (by kernel_rfl) rfl rfl rfl fun K hK => ?_
          have hc0 := BXr.out.cell0
          have hc1 := BXr.out.cell1
          have hf0 := BXr.out.free 0
          have hf1 := BXr.out.free 1
          go_simp
          have HF' := hide (And.intro (below_put HF.out.1 (show w.heap.size ≤ gr by have hx := LTS.out; omega) (.bool sb) (.slice mb lb kb)) (And.intro (HF.out.2.1.other (C := gr) (by have hx := LTS.out; omega) (.bool sb) (.slice mb lb kb)) (And.intro (HF.out.2.2.1.other (C := gr) (by have hx := LTS.out; omega) (.bool sb) (.slice mb lb kb)) (And.intro (HF.out.2.2.2.1.other (C := gr) (by have hx := LTS.out; omega) (.bool sb) (.slice mb lb kb)) (And.intro (HF.out.2.2.2.2.1.keep (BXr.out.keeps (by simp) (by simp) (.bool sb) (.slice mb lb kb))) (HF.out.2.2.2.2.2.keep (BXr.out.keeps (by simp) (by simp) (.bool sb) (.slice mb lb kb))))))))
          replace TA := hide (TA.out.keep (BXr.out.keeps (by simp) (by simp) (.bool sb) (.slice mb lb kb)))
          replace TB := hide (TB.out.keep (BXr.out.keeps (by simp) (by simp) (.bool sb) (.slice mb lb kb)))
          replace BXq := hide (BXq.out.other (C := gr) (by have hx := LTS.out; omega) (.bool sb) (.slice mb lb kb))
          replace BXr := hide (BXr.out.put (.bool sb) (.slice mb lb kb))
          refine hK _ _ (fun _ => HF'.out) ?_
          clear hK K HF hc0 hf0 hc1 hf1
          have HF := hide HF'.out
          clear HF'
          generalize ((ws1.setCell ⟨gr, 0, none⟩ (.bool sb)).setCell ⟨gr, 1, none⟩ (.slice mb lb kb)) = ws2 at *
          refine Calm.done (by kernel_rfl) ?_
          go_wp2
          go_meet
          case rel => exact ⟨gq, gr, sa, ma, la, ka, sb, mb, lb, kb, rfl, rfl, LTS.out, HF.out.1, HF.out.2.2.2.1, BXq.out, BXr.out, TA.out, TB.out⟩
        · go_simp
          have al := below_alloc u2 (.cells #[.bool false, .slice none 0 0] 30)
          have HF' := hide (And.intro (HF.out.1.trans ((al).mono HF.out.1.size)) (And.intro (HF.out.2.1.step (al)) (And.intro (HF.out.2.2.1.step (al)) (And.intro (HF.out.2.2.2.1.step (al)) (And.intro (HF.out.2.2.2.2.1.below (al)) (HF.out.2.2.2.2.2.below (al)))))))
          have BXr := hide (Box2.new u2 30 (.bool false) (.slice none 0 0))
          replace TA := hide (TA.out.below (al))
          replace TB := hide (TB.out.below (al))
          have LT1r := hide (HF.out.2.1.lt)
          have LT2r := hide (HF.out.2.2.1.lt)
          have LT3r := hide (HF.out.2.2.2.1.lt)
          have GEr := hide (HF.out.1.size)
          refine hK _ _ (fun _ => HF'.out) ?_
          clear hK K HF al
          have HF := hide HF'.out
          clear HF'
          generalize u2.alloc (.cells #[.bool false, .slice none 0 0] 30) = wzr at *
          generalize u2.heap.size = gr at *
          refine Calm.one (i := 4) (l' := #[true, true, true, true, true, true, false, false]) (by kernel_rfl) rfl rfl rfl fun K hK => ?_
          go_simp
          have al := below_alloc wzr (.cells #[.bool false, .slice none 0 0] 30)
          have HF' := hide (And.intro (HF.out.1.trans ((al).mono HF.out.1.size)) (And.intro (HF.out.2.1.step (al)) (And.intro (HF.out.2.2.1.step (al)) (And.intro (HF.out.2.2.2.1.step (al)) (And.intro (HF.out.2.2.2.2.1.below (al)) (HF.out.2.2.2.2.2.below (al)))))))
          have BXq := hide (Box2.new wzr 30 (.bool false) (.slice none 0 0))
          replace TA := hide (TA.out.below (al))
          replace TB := hide (TB.out.below (al))
          have LTrq := hide (BXr.out.lt)
          replace BXr := hide (BXr.out.step al)
          have LT1q := hide (HF.out.2.1.lt)
          have LT2q := hide (HF.out.2.2.1.lt)
          have LT3q := hide (HF.out.2.2.2.1.lt)
          have GEq := hide (HF.out.1.size)
          refine hK _ _ (fun _ => HF'.out) ?_
          clear hK K HF al
          have HF := hide HF'.out
          clear HF'
          generalize wzr.alloc (.cells #[.bool false, .slice none 0 0] 30) = wzq at *
          generalize wzr.heap.size = gq at *
          refine Calm.one (i := 6) (l' := #[true, true, true, true, true, true, true, false]) (by kernel_rfl) rfl rfl rfl fun K hK => ?_
          have LTS := hide (And.intro LT1q.out (And.intro LT2q.out (And.intro LT3q.out (And.intro LT1r.out (And.intro LT2r.out (And.intro LT3r.out (show gq ≠ gr by first | exact Nat.ne_of_lt LTqr.out | exact Nat.ne_of_gt LTrq.out)))))))
          have hc0 := BXq.out.cell0
          have hc1 := BXq.out.cell1
          have hf0 := BXq.out.free 0
          have hf1 := BXq.out.free 1
          go_simp
          have HF' := hide (And.intro (below_put HF.out.1 (show w.heap.size ≤ gq by have hx := LTS.out; omega) (.bool sa) (.slice ma la ka)) (And.intro (HF.out.2.1.other (C := gq) (by have hx := LTS.out; omega) (.bool sa) (.slice ma la ka)) (And.intro (HF.out.2.2.1.other (C := gq) (by have hx := LTS.out; omega) (.bool sa) (.slice ma la ka)) (And.intro (HF.out.2.2.2.1.other (C := gq) (by have hx := LTS.out; omega) (.bool sa) (.slice ma la ka)) (And.intro (HF.out.2.2.2.2.1.keep (BXq.out.keeps (by simp) (by simp) (.bool sa) (.slice ma la ka))) (HF.out.2.2.2.2.2.keep (BXq.out.keeps (by simp) (by simp) (.bool sa) (.slice ma la ka))))))))
          replace TA := hide (TA.out.keep (BXq.out.keeps (by simp) (by simp) (.bool sa) (.slice ma la ka)))
          replace TB := hide (TB.out.keep (BXq.out.keeps (by simp) (by simp) (.bool sa) (.slice ma la ka)))
          replace BXr := hide (BXr.out.other (C := gq) (by have hx := LTS.out; omega) (.bool sa) (.slice ma la ka))
          replace BXq := hide (BXq.out.put (.bool sa) (.slice ma la ka))
          refine hK _ _ (fun _ => HF'.out) ?_
          clear hK K HF hc0 hf0 hc1 hf1
          have HF := hide HF'.out
          clear HF'
          generalize ((wzq.setCell ⟨gq, 0, none⟩ (.bool sa)).setCell ⟨gq, 1, none⟩ (.slice ma la ka)) = ws1 at *
          refine Calm.one (i := 7) (l' := #[true, true, true, true, true, true, true, true]) (by kernel_rfl) rfl rfl rfl fun K hK => ?_
          have hc0 := BXr.out.cell0
          have hc1 := BXr.out.cell1
          have hf0 := BXr.out.free 0
          have hf1 := BXr.out.free 1
          go_simp
          have HF' := hide (And.intro (below_put HF.out.1 (show w.heap.size ≤ gr by have hx := LTS.out; omega) (.bool sb) (.slice mb lb kb)) (And.intro (HF.out.2.1.other (C := gr) (by have hx := LTS.out; omega) (.bool sb) (.slice mb lb kb)) (And.intro (HF.out.2.2.1.other (C := gr) (by have hx := LTS.out; omega) (.bool sb) (.slice mb lb kb)) (And.intro (HF.out.2.2.2.1.other (C := gr) (by have hx := LTS.out; omega) (.bool sb) (.slice mb lb kb)) (And.intro (HF.out.2.2.2.2.1.keep (BXr.out.keeps (by simp) (by simp) (.bool sb) (.slice mb lb kb))) (HF.out.2.2.2.2.2.keep (BXr.out.keeps (by simp) (by simp) (.bool sb) (.slice mb lb kb))))))))
          replace TA := hide (TA.out.keep (BXr.out.keeps (by simp) (by simp) (.bool sb) (.slice mb lb kb)))
          replace TB := hide (TB.out.keep (BXr.out.keeps (by simp) (by simp) (.bool sb) (.slice mb lb kb)))
          replace BXq := hide (BXq.out.other (C := gr) (by have hx := LTS.out; omega) (.bool sb) (.slice mb lb kb))
          replace BXr := hide (BXr.out.put (.bool sb) (.slice mb lb kb))
          refine hK _ _ (fun _ => HF'.out) ?_
          clear hK K HF hc0 hf0 hc1 hf1
          have HF := hide HF'.out
          clear HF'
          generalize ((ws1.setCell ⟨gr, 0, none⟩ (.bool sb)).setCell ⟨gr, 1, none⟩ (.slice mb lb kb)) = ws2 at *
          refine Calm.done (by kernel_rfl) ?_
          go_wp2
          go_meet
          case rel => exact ⟨gq, gr, sa, ma, la, ka, sb, mb, lb, kb, rfl, rfl, LTS.out, HF.out.1, HF.out.2.2.2.1, BXq.out, BXr.out, TA.out, TB.out⟩
      · go_simp
        have al := below_alloc u1 (.cells #[.bool false, .slice none 0 0] 30)
        have HF' := hide (And.intro (HF.out.1.trans ((al).mono HF.out.1.size)) (And.intro (HF.out.2.1.step (al)) (And.intro (HF.out.2.2.1.step (al)) (And.intro (HF.out.2.2.2.1.step (al)) (And.intro (HF.out.2.2.2.2.1.below (al)) (HF.out.2.2.2.2.2.below (al)))))))
        have BXq := hide (Box2.new u1 30 (.bool false) (.slice none 0 0))
        replace TA := hide (TA.out.below (al))
        have LT1q := hide (HF.out.2.1.lt)
        have LT2q := hide (HF.out.2.2.1.lt)
        have LT3q := hide (HF.out.2.2.2.1.lt)
        have GEq := hide (HF.out.1.size)
        refine hK _ _ (fun _ => HF'.out) ?_
        clear hK K HF al
        have HF := hide HF'.out
        clear HF'
        generalize u1.alloc (.cells #[.bool false, .slice none 0 0] 30) = wzq at *
        generalize u1.heap.size = gq at *
        refine Calm.two (i := 3) (j := 5) (l := #[true, true, true, true, true, false, false, false]) (l' := #[true, true, true, false, true, true, false, false]) (by kernel_rfl) rfl rfl rfl rfl rfl rfl (fun K hK => ?_) (fun K hK => ?_)
        · go_simp
          refine (rabs_any _ y _ HF.out.2.2.2.2.2).mono ?_
          rintro e u2 ⟨v, rfl, n, hb⟩
          obtain ⟨sb, mb, lb, kb, rfl, n⟩ := n.cells
          replace TA := hide (TA.out.below (hb))
          replace BXq := hide (BXq.out.step hb)
          have HF' := hide (And.intro (HF.out.1.trans ((hb).mono HF.out.1.size)) (And.intro (HF.out.2.1.step (hb)) (And.intro (HF.out.2.2.1.step (hb)) (And.intro (HF.out.2.2.2.1.step (hb)) (And.intro (HF.out.2.2.2.2.1.below (hb)) (HF.out.2.2.2.2.2.below (hb)))))))
          have TB := hide (n)
          refine hK _ _ (fun _ => HF'.out) ?_
          clear hK K HF hb n
          have HF := hide HF'.out
          clear HF'
          refine Calm.one (i := 5) (l' := #[true, true, true, true, true, true, false, false]) (by kernel_rfl) rfl rfl rfl fun K hK => ?_
          go_simp
          have al := below_alloc u2 (.cells #[.bool false, .slice none 0 0] 30)
          have HF' := hide (And.intro (HF.out.1.trans ((al).mono HF.out.1.size)) (And.intro (HF.out.2.1.step (al)) (And.intro (HF.out.2.2.1.step (al)) (And.intro (HF.out.2.2.2.1.step (al)) (And.intro (HF.out.2.2.2.2.1.below (al)) (HF.out.2.2.2.2.2.below (al)))))))
          have BXr := hide (Box2.new u2 30 (.bool false) (.slice none 0 0))
          replace TA := hide (TA.out.below (al))
          replace TB := hide (TB.out.below (al))
          have LTqr := hide (BXq.out.lt)
          replace BXq := hide (BXq.out.step al)
          have LT1r := hide (HF.out.2.1.lt)
          have LT2r := hide (HF.out.2.2.1.lt)
          have LT3r := hide (HF.out.2.2.2.1.lt)
          have GEr := hide (HF.out.1.size)
          refine hK _ _ (fun _ => HF'.out) ?_
          clear hK K HF al
          have HF := hide HF'.out
          clear HF'
          generalize u2.alloc (.cells #[.bool false, .slice none 0 0] 30) = wzr at *
          generalize u2.heap.size = gr at *
          refine Calm.one (i := 6) (l' := #[true, true, true, true, true, true, true, false]) (by kernel_rfl) rfl rfl rfl fun K hK => ?_
          have LTS := hide (And.intro LT1q.out (And.intro LT2q.out (And.intro LT3q.out (And.intro LT1r.out (And.intro LT2r.out (And.intro LT3r.out (show gq ≠ gr by first | exact Nat.ne_of_lt LTqr.out | exact Nat.ne_of_gt LTrq.out)))))))
          have hc0 := BXq.out.cell0
          have hc1 := BXq.out.cell1
          have hf0 := BXq.out.free 0
          have hf1 := BXq.out.free 1
          go_simp
          have HF' := hide (And.intro (below_put HF.out.1 (show w.heap.size ≤ gq by have hx := LTS.out; omega) (.bool sa) (.slice ma la ka)) (And.intro (HF.out.2.1.other (C := gq) (by have hx := LTS.out; omega) (.bool sa) (.slice ma la ka)) (And.intro (HF.out.2.2.1.other (C := gq) (by have hx := LTS.out; omega) (.bool sa) (.slice ma la ka)) (And.intro (HF.out.2.2.2.1.other (C := gq) (by have hx := LTS.out; omega) (.bool sa) (.slice ma la ka)) (And.intro (HF.out.2.2.2.2.1.keep (BXq.out.keeps (by simp) (by simp) (.bool sa) (.slice ma la ka))) (HF.out.2.2.2.2.2.keep (BXq.out.keeps (by simp) (by simp) (.bool sa) (.slice ma la ka))))))))
          replace TA := hide (TA.out.keep (BXq.out.keeps (by simp) (by simp) (.bool sa) (.slice ma la ka)))
          replace TB := hide (TB.out.keep (BXq.out.keeps (by simp) (by simp) (.bool sa) (.slice ma la ka)))
          replace BXr := hide (BXr.out.other (C := gq) (by have hx := LTS.out; omega) (.bool sa) (.slice ma la ka))
          replace BXq := hide (BXq.out.put (.bool sa) (.slice ma la ka))
          refine hK _ _ (fun _ => HF'.out) ?_
          clear hK K HF hc0 hf0 hc1 hf1
          have HF := hide HF'.out
          clear HF'
          generalize ((wzr.setCell ⟨gq, 0, none⟩ (.bool sa)).setCell ⟨gq, 1, none⟩ (.slice ma la ka)) = ws1 at *
          refine Calm.one (i := 7) (l' := #[true, true, true, true, true, true, true, true]) (by kernel_rfl) rfl rfl rfl fun K hK => ?_
          have hc0 := BXr.out.cell0
          have hc1 := BXr.out.cell1
          have hf0 := BXr.out.free 0
          have hf1 := BXr.out.free 1
          go_simp
          have HF' := hide (And.intro (below_put HF.out.1 (show w.heap.size ≤ gr by have hx := LTS.out; omega) (.bool sb) (.slice mb lb kb)) (And.intro (HF.out.2.1.other (C := gr) (by have hx := LTS.out; omega) (.bool sb) (.slice mb lb kb)) (And.intro (HF.out.2.2.1.other (C := gr) (by have hx := LTS.out; omega) (.bool sb) (.slice mb lb kb)) (And.intro (HF.out.2.2.2.1.other (C := gr) (by have hx := LTS.out; omega) (.bool sb) (.slice mb lb kb)) (And.intro (HF.out.2.2.2.2.1.keep (BXr.out.keeps (by simp) (by simp) (.bool sb) (.slice mb lb kb))) (HF.out.2.2.2.2.2.keep (BXr.out.keeps (by simp) (by simp) (.bool sb) (.slice mb lb kb))))))))
          replace TA := hide (TA.out.keep (BXr.out.keeps (by simp) (by simp) (.bool sb) (.slice mb lb kb)))
          replace TB := hide (TB.out.keep (BXr.out.keeps (by simp) (by simp) (.bool sb) (.slice mb lb kb)))
          replace BXq := hide (BXq.out.other (C := gr) (by have hx := LTS.out; omega) (.bool sb) (.slice mb lb kb))
          replace BXr := hide (BXr.out.put (.bool sb) (.slice mb lb kb))
          refine hK _ _ (fun _ => HF'.out) ?_
          clear hK K HF hc0 hf0 hc1 hf1
          have HF := hide HF'.out
          clear HF'
          generalize ((ws1.setCell ⟨gr, 0, none⟩ (.bool sb)).setCell ⟨gr, 1, none⟩ (.slice mb lb kb)) = ws2 at *
          refine Calm.done (by kernel_rfl) ?_
          go_wp2
          go_meet
          case rel => exact ⟨gq, gr, sa, ma, la, ka, sb, mb, lb, kb, rfl, rfl, LTS.out, HF.out.1, HF.out.2.2.2.1, BXq.out, BXr.out, TA.out, TB.out⟩
        · go_simp
          have al := below_alloc wzq (.cells #[.bool false, .slice none 0 0] 30)
          have HF' := hide (And.intro (HF.out.1.trans ((al).mono HF.out.1.size)) (And.intro (HF.out.2.1.step (al)) (And.intro (HF.out.2.2.1.step (al)) (And.intro (HF.out.2.2.2.1.step (al)) (And.intro (HF.out.2.2.2.2.1.below (al)) (HF.out.2.2.2.2.2.below (al)))))))
          have BXr := hide (Box2.new wzq 30 (.bool false) (.slice none 0 0))
          replace TA := hide (TA.out.below (al))
          have LTqr := hide (BXq.out.lt)
          replace BXq := hide (BXq.out.step al)
          have LT1r := hide (HF.out.2.1.lt)
          have LT2r := hide (HF.out.2.2.1.lt)
          have LT3r := hide (HF.out.2.2.2.1.lt)
          have GEr := hide (HF.out.1.size)
          refine hK _ _ (fun _ => HF'.out) ?_
          clear hK K HF al
          have HF := hide HF'.out
          clear HF'
          generalize wzq.alloc (.cells #[.bool false, .slice none 0 0] 30) = wzr at *
          generalize wzq.heap.size = gr at *
          refine Calm.one (i := 3) (l' := #[true, true, true, true, true, true, false, false]) (by kernel_rfl) rfl rfl rfl fun K hK => ?_
          go_simp
          refine (rabs_any _ y _ HF.out.2.2.2.2.2).mono ?_
          rintro e u2 ⟨v, rfl, n, hb⟩
          obtain ⟨sb, mb, lb, kb, rfl, n⟩ := n.cells
          replace TA := hide (TA.out.below (hb))
          replace BXq := hide (BXq.out.step hb)
          replace BXr := hide (BXr.out.step hb)
          have HF' := hide (And.intro (HF.out.1.trans ((hb).mono HF.out.1.size)) (And.intro (HF.out.2.1.step (hb)) (And.intro (HF.out.2.2.1.step (hb)) (And.intro (HF.out.2.2.2.1.step (hb)) (And.intro (HF.out.2.2.2.2.1.below (hb)) (HF.out.2.2.2.2.2.below (hb)))))))
          have TB := hide (n)
          refine hK _ _ (fun _ => HF'.out) ?_
          clear hK K HF hb n
          have HF := hide HF'.out
          clear HF'
          refine Calm.one (i := 6) (l' := #[true, true, true, true, true, true, true, false]) (by kernel_rfl) rfl rfl rfl fun K hK => ?_
          have LTS := hide (And.intro LT1q.out (And.intro LT2q.out (And.intro LT3q.out (And.intro LT1r.out (And.intro LT2r.out (And.intro LT3r.out (show gq ≠ gr by first | exact Nat.ne_of_lt LTqr.out | exact Nat.ne_of_gt LTrq.out)))))))
          have hc0 := BXq.out.cell0
          have hc1 := BXq.out.cell1
          have hf0 := BXq.out.free 0
          have hf1 := BXq.out.free 1
          go_simp
          have HF' := hide (And.intro (below_put HF.out.1 (show w.heap.size ≤ gq by have hx := LTS.out; omega) (.bool sa) (.slice ma la ka)) (And.intro (HF.out.2.1.other (C := gq) (by have hx := LTS.out; omega) (.bool sa) (.slice ma la ka)) (And.intro (HF.out.2.2.1.other (C := gq) (by have hx := LTS.out; omega) (.bool sa) (.slice ma la ka)) (And.intro (HF.out.2.2.2.1.other (C := gq) (by have hx := LTS.out; omega) (.bool sa) (.slice ma la ka)) (And.intro (HF.out.2.2.2.2.1.keep (BXq.out.keeps (by simp) (by simp) (.bool sa) (.slice ma la ka))) (HF.out.2.2.2.2.2.keep (BXq.out.keeps (by simp) (by simp) (.bool sa) (.slice ma la ka))))))))
          replace TA := hide (TA.out.keep (BXq.out.keeps (by simp) (by simp) (.bool sa) (.slice ma la ka)))
          replace TB := hide (TB.out.keep (BXq.out.keeps (by simp) (by simp) (.bool sa) (.slice ma la ka)))
          replace BXr := hide (BXr.out.other (C := gq) (by have hx := LTS.out; omega) (.bool sa) (.slice ma la ka))
          replace BXq := hide (BXq.out.put (.bool sa) (.slice ma la ka))
          refine hK _ _ (fun _ => HF'.out) ?_
          clear hK K HF hc0 hf0 hc1 hf1
          have HF := hide HF'.out
          clear HF'
          generalize ((u2.setCell ⟨gq, 0, none⟩ (.bool sa)).setCell ⟨gq, 1, none⟩ (.slice ma la ka)) = ws1 at *
          refine Calm.one (i := 7) (l' := #[true, true, true, true, true, true, true, true]) (by kernel_rfl) rfl rfl rfl fun K hK => ?_
          have hc0 := BXr.out.cell0
          have hc1 := BXr.out.cell1
          have hf0 := BXr.out.free 0
          have hf1 := BXr.out.free 1
          go_simp
          have HF' := hide (And.intro (below_put HF.out.1 (show w.heap.size ≤ gr by have hx := LTS.out; omega) (.bool sb) (.slice mb lb kb)) (And.intro (HF.out.2.1.other (C := gr) (by have hx := LTS.out; omega) (.bool sb) (.slice mb lb kb)) (And.intro (HF.out.2.2.1.other (C := gr) (by have hx := LTS.out; omega) (.bool sb) (.slice mb lb kb)) (And.intro (HF.out.2.2.2.1.other (C := gr) (by have hx := LTS.out; omega) (.bool sb) (.slice mb lb kb)) (And.intro (HF.out.2.2.2.2.1.keep (BXr.out.keeps (by simp) (by simp) (.bool sb) (.slice mb lb kb))) (HF.out.2.2.2.2.2.keep (BXr.out.keeps (by simp) (by simp) (.bool sb) (.slice mb lb kb))))))))
          replace TA := hide (TA.out.keep (BXr.out.keeps (by simp) (by simp) (.bool sb) (.slice mb lb kb)))
          replace TB := hide (TB.out.keep (BXr.out.keeps (by simp) (by simp) (.bool sb) (.slice mb lb kb)))
          replace BXq := hide (BXq.out.other (C := gr) (by have hx := LTS.out; omega) (.bool sb) (.slice mb lb kb))
          replace BXr := hide (BXr.out.put (.bool sb) (.slice mb lb kb))
          refine hK _ _ (fun _ => HF'.out) ?_
          clear hK K HF hc0 hf0 hc1 hf1
          have HF := hide HF'.out
          clear HF'
          generalize ((ws1.setCell ⟨gr, 0, none⟩ (.bool sb)).setCell ⟨gr, 1, none⟩ (.slice mb lb kb)) = ws2 at *
          refine Calm.done (by kernel_rfl) ?_
          go_wp2
          go_meet
          case rel => exact ⟨gq, gr, sa, ma, la, ka, sb, mb, lb, kb, rfl, rfl, LTS.out, HF.out.1, HF.out.2.2.2.1, BXq.out, BXr.out, TA.out, TB.out⟩
      · go_simp
        have al := below_alloc u1 (.cells #[.bool false, .slice none 0 0] 30)
        have HF' := hide (And.intro (HF.out.1.trans ((al).mono HF.out.1.size)) (And.intro (HF.out.2.1.step (al)) (And.intro (HF.out.2.2.1.step (al)) (And.intro (HF.out.2.2.2.1.step (al)) (And.intro (HF.out.2.2.2.2.1.below (al)) (HF.out.2.2.2.2.2.below (al)))))))
        have BXr := hide (Box2.new u1 30 (.bool false) (.slice none 0 0))
        replace TA := hide (TA.out.below (al))
        have LT1r := hide (HF.out.2.1.lt)
        have LT2r := hide (HF.out.2.2.1.lt)
        have LT3r := hide (HF.out.2.2.2.1.lt)
        have GEr := hide (HF.out.1.size)
        refine hK _ _ (fun _ => HF'.out) ?_
        clear hK K HF al
        have HF := hide HF'.out
        clear HF'
        generalize u1.alloc (.cells #[.bool false, .slice none 0 0] 30) = wzr at *
        generalize u1.heap.size = gr at *
        refine Calm.two (i := 3) (j := 4) (l := #[true, true, true, true, false, true, false, false]) (l' := #[true, true, true, false, true, true, false, false]) (by kernel_rfl) rfl rfl rfl rfl rfl rfl (fun K hK => ?_) (fun K hK => ?_)
        · go_simp
          refine (rabs_any _ y _ HF.out.2.2.2.2.2).mono ?_
          rintro e u2 ⟨v, rfl, n, hb⟩
          obtain ⟨sb, mb, lb, kb, rfl, n⟩ := n.cells
          replace TA := hide (TA.out.below (hb))
          replace BXr := hide (BXr.out.step hb)
          have HF' := hide (And.intro (HF.out.1.trans ((hb).mono HF.out.1.size)) (And.intro (HF.out.2.1.step (hb)) (And.intro (HF.out.2.2.1.step (hb)) (And.intro (HF.out.2.2.2.1.step (hb)) (And.intro (HF.out.2.2.2.2.1.below (hb)) (HF.out.2.2.2.2.2.below (hb)))))))
          have TB := hide (n)
          refine hK _ _ (fun _ => HF'.out) ?_
          clear hK K HF hb n
          have HF := hide HF'.out
          clear HF'
          refine Calm.one (i := 4) (l' := #[true, true, true, true, true, true, false, false]) (by kernel_rfl) rfl rfl rfl fun K hK => ?_
          go_simp
          have al := below_alloc u2 (.cells #[.bool false, .slice none 0 0] 30)
          have HF' := hide (And.intro (HF.out.1.trans ((al).mono HF.out.1.size)) (And.intro (HF.out.2.1.step (al)) (And.intro (HF.out.2.2.1.step (al)) (And.intro (HF.out.2.2.2.1.step (al)) (And.intro (HF.out.2.2.2.2.1.below (al)) (HF.out.2.2.2.2.2.below (al)))))))
          have BXq := hide (Box2.new u2 30 (.bool false) (.slice none 0 0))
          replace TA := hide (TA.out.below (al))
          replace TB := hide (TB.out.below (al))
          have LTrq := hide (BXr.out.lt)
          replace BXr := hide (BXr.out.step al)
          have LT1q := hide (HF.out.2.1.lt)
          have LT2q := hide (HF.out.2.2.1.lt)
          have LT3q := hide (HF.out.2.2.2.1.lt)
          have GEq := hide (HF.out.1.size)
          refine hK _ _ (fun _ => HF'.out) ?_
          clear hK K HF al
          have HF := hide HF'.out
          clear HF'
          generalize u2.alloc (.cells #[.bool false, .slice none 0 0] 30) = wzq at *
          generalize u2.heap.size = gq at *
          refine Calm.one (i := 6) (l' := #[true, true, true, true, true, true, true, false]) (by kernel_rfl) rfl rfl rfl fun K hK => ?_
          have LTS := hide (And.intro LT1q.out (And.intro LT2q.out (And.intro LT3q.out (And.intro LT1r.out (And.intro LT2r.out (And.intro LT3r.out (show gq ≠ gr by first | exact Nat.ne_of_lt LTqr.out | exact Nat.ne_of_gt LTrq.out)))))))
          have hc0 := BXq.out.cell0
          have hc1 := BXq.out.cell1
          have hf0 := BXq.out.free 0
          have hf1 := BXq.out.free 1
          go_simp
          have HF' := hide (And.intro (below_put HF.out.1 (show w.heap.size ≤ gq by have hx := LTS.out; omega) (.bool sa) (.slice ma la ka)) (And.intro (HF.out.2.1.other (C := gq) (by have hx := LTS.out; omega) (.bool sa) (.slice ma la ka)) (And.intro (HF.out.2.2.1.other (C := gq) (by have hx := LTS.out; omega) (.bool sa) (.slice ma la ka)) (And.intro (HF.out.2.2.2.1.other (C := gq) (by have hx := LTS.out; omega) (.bool sa) (.slice ma la ka)) (And.intro (HF.out.2.2.2.2.1.keep (BXq.out.keeps (by simp) (by simp) (.bool sa) (.slice ma la ka))) (HF.out.2.2.2.2.2.keep (BXq.out.keeps (by simp) (by simp) (.bool sa) (.slice ma la ka))))))))
          replace TA := hide (TA.out.keep (BXq.out.keeps (by simp) (by simp) (.bool sa) (.slice ma la ka)))
          replace TB := hide (TB.out.keep (BXq.out.keeps (by simp) (by simp) (.bool sa) (.slice ma la ka)))
          replace BXr := hide (BXr.out.other (C := gq) (by have hx := LTS.out; omega) (.bool sa) (.slice ma la ka))
          replace BXq := hide (BXq.out.put (.bool sa) (.slice ma la ka))
          refine hK _ _ (fun _ => HF'.out) ?_
          clear hK K HF hc0 hf0 hc1 hf1
          have HF := hide HF'.out
          clear HF'
          generalize ((wzq.setCell ⟨gq, 0, none⟩ (.bool sa)).setCell ⟨gq, 1, none⟩ (.slice ma la ka)) = ws1 at *
          refine Calm.one (i := 7) (l' := #[true, true, true, true, true, true, true, true]) (by kernel_rfl) rfl rfl rfl fun K hK => ?_
          have hc0 := BXr.out.cell0
          have hc1 := BXr.out.cell1
          have hf0 := BXr.out.free 0
          have hf1 := BXr.out.free 1
          go_simp
          have HF' := hide (And.intro (below_put HF.out.1 (show w.heap.size ≤ gr by have hx := LTS.out; omega) (.bool sb) (.slice mb lb kb)) (And.intro (HF.out.2.1.other (C := gr) (by have hx := LTS.out; omega) (.bool sb) (.slice mb lb kb)) (And.intro (HF.out.2.2.1.other (C := gr) (by have hx := LTS.out; omega) (.bool sb) (.slice mb lb kb)) (And.intro (HF.out.2.2.2.1.other (C := gr) (by have hx := LTS.out; omega) (.bool sb) (.slice mb lb kb)) (And.intro (HF.out.2.2.2.2.1.keep (BXr.out.keeps (by simp) (by simp) (.bool sb) (.slice mb lb kb))) (HF.out.2.2.2.2.2.keep (BXr.out.keeps (by simp) (by simp) (.bool sb) (.slice mb lb kb))))))))
          replace TA := hide (TA.out.keep (BXr.out.keeps (by simp) (by simp) (.bool sb) (.slice mb lb kb)))
          replace TB := hide (TB.out.keep (BXr.out.keeps (by simp) (by simp) (.bool sb) (.slice mb lb kb)))
          replace BXq := hide (BXq.out.other (C := gr) (by have hx := LTS.out; omega) (.bool sb) (.slice mb lb kb))
          replace BXr := hide (BXr.out.put (.bool sb) (.slice mb lb kb))
          refine hK _ _ (fun _ => HF'.out) ?_
          clear hK K HF hc0 hf0 hc1 hf1
          have HF := hide HF'.out
          clear HF'
          generalize ((ws1.setCell ⟨gr, 0, none⟩ (.bool sb)).setCell ⟨gr, 1, none⟩ (.slice mb lb kb)) = ws2 at *
          refine Calm.done (by kernel_rfl) ?_
          go_wp2
          go_meet
          case rel => exact ⟨gq, gr, sa, ma, la, ka, sb, mb, lb, kb, rfl, rfl, LTS.out, HF.out.1, HF.out.2.2.2.1, BXq.out, BXr.out, TA.out, TB.out⟩
        · go_simp
          have al := below_alloc wzr (.cells #[.bool false, .slice none 0 0] 30)
          have HF' := hide (And.intro (HF.out.1.trans ((al).mono HF.out.1.size)) (And.intro (HF.out.2.1.step (al)) (And.intro (HF.out.2.2.1.step (al)) (And.intro (HF.out.2.2.2.1.step (al)) (And.intro (HF.out.2.2.2.2.1.below (al)) (HF.out.2.2.2.2.2.below (al)))))))
          have BXq := hide (Box2.new wzr 30 (.bool false) (.slice none 0 0))
          replace TA := hide (TA.out.below (al))
          have LTrq := hide (BXr.out.lt)
          replace BXr := hide (BXr.out.step al)
          have LT1q := hide (HF.out.2.1.lt)
          have LT2q := hide (HF.out.2.2.1.lt)
          have LT3q := hide (HF.out.2.2.2.1.lt)
          have GEq := hide (HF.out.1.size)
          refine hK _ _ (fun _ => HF'.out) ?_
          clear hK K HF al
          have HF := hide HF'.out
          clear HF'
          generalize wzr.alloc (.cells #[.bool false, .slice none 0 0] 30) = wzq at *
          generalize wzr.heap.size = gq at *
          refine Calm.one (i := 3) (l' := #[true, true, true, true, true, true, false, false]) (by kernel_rfl) rfl rfl rfl fun K hK => ?_
          go_simp
          refine (rabs_any _ y _ HF.out.2.2.2.2.2).mono ?_
          rintro e u2 ⟨v, rfl, n, hb⟩
          obtain ⟨sb, mb, lb, kb, rfl, n⟩ := n.cells
          replace TA := hide (TA.out.below (hb))
          replace BXr := hide (BXr.out.step hb)
          replace BXq := hide (BXq.out.step hb)
          have HF' := hide (And.intro (HF.out.1.trans ((hb).mono HF.out.1.size)) (And.intro (HF.out.2.1.step (hb)) (And.intro (HF.out.2.2.1.step (hb)) (And.intro (HF.out.2.2.2.1.step (hb)) (And.intro (HF.out.2.2.2.2.1.below (hb)) (HF.out.2.2.2.2.2.below (hb)))))))
          have TB := hide (n)
          refine hK _ _ (fun _ => HF'.out) ?_
          clear hK K HF hb n
          have HF := hide HF'.out
          clear HF'
          refine Calm.one (i := 6) (l' := #[true, true, true, true, true, true, true, false]) (by kernel_rfl) rfl rfl rfl fun K hK => ?_
          have LTS := hide (And.intro LT1q.out (And.intro LT2q.out (And.intro LT3q.out (And.intro LT1r.out (And.intro LT2r.out (And.intro LT3r.out (show gq ≠ gr by first | exact Nat.ne_of_lt LTqr.out | exact Nat.ne_of_gt LTrq.out)))))))
          have hc0 := BXq.out.cell0
          have hc1 := BXq.out.cell1
          have hf0 := BXq.out.free 0
          have hf1 := BXq.out.free 1
          go_simp
          have HF' := hide (And.intro (below_put HF.out.1 (show w.heap.size ≤ gq by have hx := LTS.out; omega) (.bool sa) (.slice ma la ka)) (And.intro (HF.out.2.1.other (C := gq) (by have hx := LTS.out; omega) (.bool sa) (.slice ma la ka)) (And.intro (HF.out.2.2.1.other (C := gq) (by have hx := LTS.out; omega) (.bool sa) (.slice ma la ka)) (And.intro (HF.out.2.2.2.1.other (C := gq) (by have hx := LTS.out; omega) (.bool sa) (.slice ma la ka)) (And.intro (HF.out.2.2.2.2.1.keep (BXq.out.keeps (by simp) (by simp) (.bool sa) (.slice ma la ka))) (HF.out.2.2.2.2.2.keep (BXq.out.keeps (by simp) (by simp) (.bool sa) (.slice ma la ka))))))))
          replace TA := hide (TA.out.keep (BXq.out.keeps (by simp) (by simp) (.bool sa) (.slice ma la ka)))
          replace TB := hide (TB.out.keep (BXq.out.keeps (by simp) (by simp) (.bool sa) (.slice ma la ka)))
          replace BXr := hide (BXr.out.other (C := gq) (by have hx := LTS.out; omega) (.bool sa) (.slice ma la ka))
          replace BXq := hide (BXq.out.put (.bool sa) (.slice ma la ka))
          refine hK _ _ (fun _ => HF'.out) ?_
          clear hK K HF hc0 hf0 hc1 hf1
          have HF := hide HF'.out
          clear HF'
          generalize ((u2.setCell ⟨gq, 0, none⟩ (.bool sa)).setCell ⟨gq, 1, none⟩ (.slice ma la ka)) = ws1 at *
          refine Calm.one (i := 7) (l' := #[true, true, true, true, true, true, true, true]) (by kernel_rfl) rfl rfl rfl fun K hK => ?_
          have hc0 := BXr.out.cell0
          have hc1 := BXr.out.cell1
          have hf0 := BXr.out.free 0
          have hf1 := BXr.out.free 1
          go_simp
          have HF' := hide (And.intro (below_put HF.out.1 (show w.heap.size ≤ gr by have hx := LTS.out; omega) (.bool sb) (.slice mb lb kb)) (And.intro (HF.out.2.1.other (C := gr) (by have hx := LTS.out; omega) (.bool sb) (.slice mb lb kb)) (And.intro (HF.out.2.2.1.other (C := gr) (by have hx := LTS.out; omega) (.bool sb) (.slice mb lb kb)) (And.intro (HF.out.2.2.2.1.other (C := gr) (by have hx := LTS.out; omega) (.bool sb) (.slice mb lb kb)) (And.intro (HF.out.2.2.2.2.1.keep (BXr.out.keeps (by simp) (by simp) (.bool sb) (.slice mb lb kb))) (HF.out.2.2.2.2.2.keep (BXr.out.keeps (by simp) (by simp) (.bool sb) (.slice mb lb kb))))))))
          replace TA := hide (TA.out.keep (BXr.out.keeps (by simp) (by simp) (.bool sb) (.slice mb lb kb)))
          replace TB := hide (TB.out.keep (BXr.out.keeps (by simp) (by simp) (.bool sb) (.slice mb lb kb)))
          replace BXq := hide (BXq.out.other (C := gr) (by have hx := LTS.out; omega) (.bool sb) (.slice mb lb kb))
          replace BXr := hide (BXr.out.put (.bool sb) (.slice mb lb kb))
          refine hK _ _ (fun _ => HF'.out) ?_
          clear hK K HF hc0 hf0 hc1 hf1
          have HF := hide HF'.out
          clear HF'
          generalize ((ws1.setCell ⟨gr, 0, none⟩ (.bool sb)).setCell ⟨gr, 1, none⟩ (.slice mb lb kb)) = ws2 at *
          refine Calm.done (by kernel_rfl) ?_
          go_wp2
          go_meet
          case rel => exact ⟨gq, gr, sa, ma, la, ka, sb, mb, lb, kb, rfl, rfl, LTS.out, HF.out.1, HF.out.2.2.2.1, BXq.out, BXr.out, TA.out, TB.out⟩
    · go_simp
      have al := below_alloc w0d (.cells #[.bool false, .slice none 0 0] 30)
      have HF' := hide (And.intro (HF.out.1.trans ((al).mono HF.out.1.size)) (And.intro (HF.out.2.1.step (al)) (And.intro (HF.out.2.2.1.step (al)) (And.intro (HF.out.2.2.2.1.step (al)) (And.intro (HF.out.2.2.2.2.1.below (al)) (HF.out.2.2.2.2.2.below (al)))))))
      have BXq := hide (Box2.new w0d 30 (.bool false) (.slice none 0 0))
      have LT1q := hide (HF.out.2.1.lt)
      have LT2q := hide (HF.out.2.2.1.lt)
      have LT3q := hide (HF.out.2.2.2.1.lt)
      have GEq := hide (HF.out.1.size)
      refine hK _ _ (fun _ => HF'.out) ?_
      clear hK K HF al
      have HF := hide HF'.out
      clear HF'
      generalize w0d.alloc (.cells #[.bool false, .slice none 0 0] 30) = wzq at *
      generalize w0d.heap.size = gq at *
      refine Calm.two (i := 1) (j := 5) (l := #[true, true, true, false, true, false, false, false]) (l' := #[true, false, true, false, true, true, false, false]) (by kernel_rfl) rfl rfl rfl rfl rfl rfl (fun K hK => ?_) (fun K hK => ?_)
      · go_simp
        refine (rabs_any _ x _ HF.out.2.2.2.2.1).mono ?_
        rintro e u1 ⟨v, rfl, n, hb⟩
        obtain ⟨sa, ma, la, ka, rfl, n⟩ := n.cells
        replace BXq := hide (BXq.out.step hb)
        have HF' := hide (And.intro (HF.out.1.trans ((hb).mono HF.out.1.size)) (And.intro (HF.out.2.1.step (hb)) (And.intro (HF.out.2.2.1.step (hb)) (And.intro (HF.out.2.2.2.1.step (hb)) (And.intro (HF.out.2.2.2.2.1.below (hb)) (HF.out.2.2.2.2.2.below (hb)))))))
        have TA := hide (n)
        refine hK _ _ (fun _ => HF'.out) ?_
        clear hK K HF hb n
        have HF := hide HF'.out
        clear HF'
        refine Calm.two (i := 3) (j := 5) (l := #[true, true, true, true, true, false, false, false]) (l' := #[true, true, true, false, true, true, false, false]) (by kernel_rfl) rfl rfl rfl rfl rfl rfl (fun K hK => ?_) (fun K hK => ?_)
        · go_simp
          refine (rabs_any _ y _ HF.out.2.2.2.2.2).mono ?_
          rintro e u2 ⟨v, rfl, n, hb⟩
          obtain ⟨sb, mb, lb, kb, rfl, n⟩ := n.cells
          replace TA := hide (TA.out.below (hb))
          replace BXq := hide (BXq.out.step hb)
          have HF' := hide (And.intro (HF.out.1.trans ((hb).mono HF.out.1.size)) (And.intro (HF.out.2.1.step (hb)) (And.intro (HF.out.2.2.1.step (hb)) (And.intro (HF.out.2.2.2.1.step (hb)) (And.intro (HF.out.2.2.2.2.1.below (hb)) (HF.out.2.2.2.2.2.below (hb)))))))
          have TB := hide (n)
          refine hK _ _ (fun _ => HF'.out) ?_
          clear hK K HF hb n
          have HF := hide HF'.out
          clear HF'
          refine Calm.one (i := 5) (l' := #[true, true, true, true, true, true, false, false]) (by kernel_rfl) rfl rfl rfl fun K hK => ?_
          go_simp
          have al := below_alloc u2 (.cells #[.bool false, .slice none 0 0] 30)
          have HF' := hide (And.intro (HF.out.1.trans ((al).mono HF.out.1.size)) (And.intro (HF.out.2.1.step (al)) (And.intro (HF.out.2.2.1.step (al)) (And.intro (HF.out.2.2.2.1.step (al)) (And.intro (HF.out.2.2.2.2.1.below (al)) (HF.out.2.2.2.2.2.below (al)))))))
          have BXr := hide (Box2.new u2 30 (.bool false) (.slice none 0 0))
          replace TA := hide (TA.out.below (al))
          replace TB := hide (TB.out.below (al))
          have LTqr := hide (BXq.out.lt)
          replace BXq := hide (BXq.out.step al)
          have LT1r := hide (HF.out.2.1.lt)
          have LT2r := hide (HF.out.2.2.1.lt)
          have LT3r := hide (HF.out.2.2.2.1.lt)
          have GEr := hide (HF.out.1.size)
          refine hK _ _ (fun _ => HF'.out) ?_
          clear hK K HF al
          have HF := hide HF'.out
          clear HF'
          generalize u2.alloc (.cells #[.bool false, .slice none 0 0] 30) = wzr at *
          generalize u2.heap.size = gr at *
          refine Calm.one (i := 6) (l' := #[true, true, true, true, true, true, true, false]) (by kernel_rfl) rfl rfl rfl fun K hK => ?_
          have LTS := hide (And.intro LT1q.out (And.intro LT2q.out (And.intro LT3q.out (And.intro LT1r.out (And.intro LT2r.out (And.intro LT3r.out (show gq ≠ gr by first | exact Nat.ne_of_lt LTqr.out | exact Nat.ne_of_gt LTrq.out)))))))
          have hc0 := BXq.out.cell0
          have hc1 := BXq.out.cell1
          have hf0 := BXq.out.free 0
          have hf1 := BXq.out.free 1
          go_simp
          have HF' := hide (And.intro (below_put HF.out.1 (show w.heap.size ≤ gq by have hx := LTS.out; omega) (.bool sa) (.slice ma la ka)) (And.intro (HF.out.2.1.other (C := gq) (by have hx := LTS.out; omega) (.bool sa) (.slice ma la ka)) (And.intro (HF.out.2.2.1.other (C := gq) (by have hx := LTS.out; omega) (.bool sa) (.slice ma la ka)) (And.intro (HF.out.2.2.2.1.other (C := gq) (by have hx := LTS.out; omega) (.bool sa) (.slice ma la ka)) (And.intro (HF.out.2.2.2.2.1.keep (BXq.out.keeps (by simp) (by simp) (.bool sa) (.slice ma la ka))) (HF.out.2.2.2.2.2.keep (BXq.out.keeps (by simp) (by simp) (.bool sa) (.slice ma la ka))))))))
          replace TA := hide (TA.out.keep (BXq.out.keeps (by simp) (by simp) (.bool sa) (.slice ma la ka)))
          replace TB := hide (TB.out.keep (BXq.out.keeps (by simp) (by simp) (.bool sa) (.slice ma la ka)))
          replace BXr := hide (BXr.out.other (C := gq) (by have hx := LTS.out; omega) (.bool sa) (.slice ma la ka))
          replace BXq := hide (BXq.out.put (.bool sa) (.slice ma la ka))
          refine hK _ _ (fun _ => HF'.out) ?_
          clear hK K HF hc0 hf0 hc1 hf1
          have HF := hide HF'.out
          clear HF'
          generalize ((wzr.setCell ⟨gq, 0, none⟩ (.bool sa)).setCell ⟨gq, 1, none⟩ (.slice ma la ka)) = ws1 at *
          refine Calm.one (i := 7) (l' := #[true, true, true, true, true, true, true, true]) (by kernel_rfl) rfl rfl rfl fun K hK => ?_
          have hc0 := BXr.out.cell0
          have hc1 := BXr.out.cell1
          have hf0 := BXr.out.free 0
          have hf1 := BXr.out.free 1
          go_simp
          have HF' := hide (And.intro (below_put HF.out.1 (show w.heap.size ≤ gr by have hx := LTS.out; omega) (.bool sb) (.slice mb lb kb)) (And.intro (HF.out.2.1.other (C := gr) (by have hx := LTS.out; omega) (.bool sb) (.slice mb lb kb)) (And.intro (HF.out.2.2.1.other (C := gr) (by have hx := LTS.out; omega) (.bool sb) (.slice mb lb kb)) (And.intro (HF.out.2.2.2.1.other (C := gr) (by have hx := LTS.out; omega) (.bool sb) (.slice mb lb kb)) (And.intro (HF.out.2.2.2.2.1.keep (BXr.out.keeps (by simp) (by simp) (.bool sb) (.slice mb lb kb))) (HF.out.2.2.2.2.2.keep (BXr.out.keeps (by simp) (by simp) (.bool sb) (.slice mb lb kb))))))))
          replace TA := hide (TA.out.keep (BXr.out.keeps (by simp) (by simp) (.bool sb) (.slice mb lb kb)))
          replace TB := hide (TB.out.keep (BXr.out.keeps (by simp) (by simp) (.bool sb) (.slice mb lb kb)))
          replace BXq := hide (BXq.out.other (C := gr) (by have hx := LTS.out; omega) (.bool sb) (.slice mb lb kb))
          replace BXr := hide (BXr.out.put (.bool sb) (.slice mb lb kb))
          refine hK _ _ (fun _ => HF'.out) ?_
          clear hK K HF hc0 hf0 hc1 hf1
          have HF := hide HF'.out
          clear HF'
          generalize ((ws1.setCell ⟨gr, 0, none⟩ (.bool sb)).setCell ⟨gr, 1, none⟩ (.slice mb lb kb)) = ws2 at *
          refine Calm.done (by kernel_rfl) ?_
          go_wp2
          go_meet
          case rel => exact ⟨gq, gr, sa, ma, la, ka, sb, mb, lb, kb, rfl, rfl, LTS.out, HF.out.1, HF.out.2.2.2.1, BXq.out, BXr.out, TA.out, TB.out⟩
        · go_simp
          have al := below_alloc u1 (.cells #[.bool false, .slice none 0 0] 30)
          have HF' := hide (And.intro (HF.out.1.trans ((al).mono HF.out.1.size)) (And.intro (HF.out.2.1.step (al)) (And.intro (HF.out.2.2.1.step (al)) (And.intro (HF.out.2.2.2.1.step (al)) (And.intro (HF.out.2.2.2.2.1.below (al)) (HF.out.2.2.2.2.2.below (al)))))))
          have BXr := hide (Box2.new u1 30 (.bool false) (.slice none 0 0))
          replace TA := hide (TA.out.below (al))
          have LTqr := hide (BXq.out.lt)
          replace BXq := hide (BXq.out.step al)
          have LT1r := hide (HF.out.2.1.lt)
          have LT2r := hide (HF.out.2.2.1.lt)
          have LT3r := hide (HF.out.2.2.2.1.lt)
          have GEr := hide (HF.out.1.size)
          refine hK _ _ (fun _ => HF'.out) ?_
          clear hK K HF al
          have HF := hide HF'.out
          clear HF'
          generalize u1.alloc (.cells #[.bool false, .slice none 0 0] 30) = wzr at *
          generalize u1.heap.size = gr at *
          refine Calm.one (i := 3) (l' := #[true, true, true, true, true, true, false, false]) (by kernel_rfl) rfl rfl rfl fun K hK => ?_
          go_simp
          refine (rabs_any _ y _ HF.out.2.2.2.2.2).mono ?_
          rintro e u2 ⟨v, rfl, n, hb⟩
          obtain ⟨sb, mb, lb, kb, rfl, n⟩ := n.cells
          replace TA := hide (TA.out.below (hb))
          replace BXq := hide (BXq.out.step hb)
          replace BXr := hide (BXr.out.step hb)
          have HF' := hide (And.intro (HF.out.1.trans ((hb).mono HF.out.1.size)) (And.intro (HF.out.2.1.step (hb)) (And.intro (HF.out.2.2.1.step (hb)) (And.intro (HF.out.2.2.2.1.step (hb)) (And.intro (HF.out.2.2.2.2.1.below (hb)) (HF.out.2.2.2.2.2.below (hb)))))))
          have TB := hide (n)
          refine hK _ _ (fun _ => HF'.out) ?_
          clear hK K HF hb n
          have HF := hide HF'.out
          clear HF'
          refine Calm.one (i := 6) (l' := #[true, true, true, true, true, true, true, false]) (by kernel_rfl) rfl rfl rfl fun K hK => ?_
          have LTS := hide (And.intro LT1q.out (And.intro LT2q.out (And.intro LT3q.out (And.intro LT1r.out (And.intro LT2r.out (And.intro LT3r.out (show gq ≠ gr by first | exact Nat.ne_of_lt LTqr.out | exact Nat.ne_of_gt LTrq.out)))))))
          have hc0 := BXq.out.cell0
          have hc1 := BXq.out.cell1
          have hf0 := BXq.out.free 0
          have hf1 := BXq.out.free 1
          go_simp
          have HF' := hide (And.intro (below_put HF.out.1 (show w.heap.size ≤ gq by have hx := LTS.out; omega) (.bool sa) (.slice ma la ka)) (And.intro (HF.out.2.1.other (C := gq) (by have hx := LTS.out; omega) (.bool sa) (.slice ma la ka)) (And.intro (HF.out.2.2.1.other (C := gq) (by have hx := LTS.out; omega) (.bool sa) (.slice ma la ka)) (And.intro (HF.out.2.2.2.1.other (C := gq) (by have hx := LTS.out; omega) (.bool sa) (.slice ma la ka)) (And.intro (HF.out.2.2.2.2.1.keep (BXq.out.keeps (by simp) (by simp) (.bool sa) (.slice ma la ka))) (HF.out.2.2.2.2.2.keep (BXq.out.keeps (by simp) (by simp) (.bool sa) (.slice ma la ka))))))))
          replace TA := hide (TA.out.keep (BXq.out.keeps (by simp) (by simp) (.bool sa) (.slice ma la ka)))
          replace TB := hide (TB.out.keep (BXq.out.keeps (by simp) (by simp) (.bool sa) (.slice ma la ka)))
          replace BXr := hide (BXr.out.other (C := gq) (by have hx := LTS.out; omega) (.bool sa) (.slice ma la ka))
          replace BXq := hide (BXq.out.put (.bool sa) (.slice ma la ka))
          refine hK _ _ (fun _ => HF'.out) ?_
          clear hK K HF hc0 hf0 hc1 hf1
          have HF := hide HF'.out
          clear HF'
          generalize ((u2.setCell ⟨gq, 0, none⟩ (.bool sa)).setCell ⟨gq, 1, none⟩ (.slice ma la ka)) = ws1 at *
          refine Calm.one (i := 7) (l' := #[true, true, true, true, true, true, true, true]) (by kernel_rfl) rfl rfl rfl fun K hK => ?_
          have hc0 := BXr.out.cell0
          have hc1 := BXr.out.cell1
          have hf0 := BXr.out.free 0
          have hf1 := BXr.out.free 1
          go_simp
          have HF' := hide (And.intro (below_put HF.out.1 (show w.heap.size ≤ gr by have hx := LTS.out; omega) (.bool sb) (.slice mb lb kb)) (And.intro (HF.out.2.1.other (C := gr) (by have hx := LTS.out; omega) (.bool sb) (.slice mb lb kb)) (And.intro (HF.out.2.2.1.other (C := gr) (by have hx := LTS.out; omega) (.bool sb) (.slice mb lb kb)) (And.intro (HF.out.2.2.2.1.other (C := gr) (by have hx := LTS.out; omega) (.bool sb) (.slice mb lb kb)) (And.intro (HF.out.2.2.2.2.1.keep (BXr.out.keeps (by simp) (by simp) (.bool sb) (.slice mb lb kb))) (HF.out.2.2.2.2.2.keep (BXr.out.keeps (by simp) (by simp) (.bool sb) (.slice mb lb kb))))))))
          replace TA := hide (TA.out.keep (BXr.out.keeps (by simp) (by simp) (.bool sb) (.slice mb lb kb)))
          replace TB := hide (TB.out.keep (BXr.out.keeps (by simp) (by simp) (.bool sb) (.slice mb lb kb)))
          replace BXq := hide (BXq.out.other (C := gr) (by have hx := LTS.out; omega) (.bool sb) (.slice mb lb kb))
          replace BXr := hide (BXr.out.put (.bool sb) (.slice mb lb kb))
          refine hK _ _ (fun _ => HF'.out) ?_
          clear hK K HF hc0 hf0 hc1 hf1
          have HF := hide HF'.out
          clear HF'
          generalize ((ws1.setCell ⟨gr, 0, none⟩ (.bool sb)).setCell ⟨gr, 1, none⟩ (.slice mb lb kb)) = ws2 at *
          refine Calm.done (by kernel_rfl) ?_
          go_wp2
          go_meet
          case rel => exact ⟨gq, gr, sa, ma, la, ka, sb, mb, lb, kb, rfl, rfl, LTS.out, HF.out.1, HF.out.2.2.2.1, BXq.out, BXr.out, TA.out, TB.out⟩
      · go_simp
        have al := below_alloc wzq (.cells #[.bool false, .slice none 0 0] 30)
        have HF' := hide (And.intro (HF.out.1.trans ((al).mono HF.out.1.size)) (And.intro (HF.out.2.1.step (al)) (And.intro (HF.out.2.2.1.step (al)) (And.intro (HF.out.2.2.2.1.step (al)) (And.intro (HF.out.2.2.2.2.1.below (al)) (HF.out.2.2.2.2.2.below (al)))))))
        have BXr := hide (Box2.new wzq 30 (.bool false) (.slice none 0 0))
        have LTqr := hide (BXq.out.lt)
        replace BXq := hide (BXq.out.step al)
        have LT1r := hide (HF.out.2.1.lt)
        have LT2r := hide (HF.out.2.2.1.lt)
        have LT3r := hide (HF.out.2.2.2.1.lt)
        have GEr := hide (HF.out.1.size)
        refine hK _ _ (fun _ => HF'.out) ?_
        clear hK K HF al
        have HF := hide HF'.out
        clear HF'
        generalize wzq.alloc (.cells #[.bool false, .slice none 0 0] 30) = wzr at *
        generalize wzq.heap.size = gr at *
        refine Calm.one (i := 1) (l' := #[true, true, true, false, true, true, false, false]) (by kernel_rfl) rfl rfl rfl fun K hK => ?_
        go_simp
        refine (rabs_any _ x _ HF.out.2.2.2.2.1).mono ?_
        rintro e u1 ⟨v, rfl, n, hb⟩
        obtain ⟨sa, ma, la, ka, rfl, n⟩ := n.cells
        replace BXq := hide (BXq.out.step hb)
        replace BXr := hide (BXr.out.step hb)
        have HF' := hide (And.intro (HF.out.1.trans ((hb).mono HF.out.1.size)) (And.intro (HF.out.2.1.step (hb)) (And.intro (HF.out.2.2.1.step (hb)) (And.intro (HF.out.2.2.2.1.step (hb)) (And.intro (HF.out.2.2.2.2.1.below (hb)) (HF.out.2.2.2.2.2.below (hb)))))))
        have TA := hide (n)
        refine hK _ _ (fun _ => HF'.out) ?_
        clear hK K HF hb n
        have HF := hide HF'.out
        clear HF'
        refine Calm.one (i := 3) (l' := #[true, true, true, true, true, true, false, false]) (by kernel_rfl) rfl rfl rfl fun K hK => ?_
        go_simp
        refine (rabs_any _ y _ HF.out.2.2.2.2.2).mono ?_
        rintro e u2 ⟨v, rfl, n, hb⟩
        obtain ⟨sb, mb, lb, kb, rfl, n⟩ := n.cells
        replace TA := hide (TA.out.below (hb))
        replace BXq := hide (BXq.out.step hb)
        replace BXr := hide (BXr.out.step hb)
        have HF' := hide (And.intro (HF.out.1.trans ((hb).mono HF.out.1.size)) (And.intro (HF.out.2.1.step (hb)) (And.intro (HF.out.2.2.1.step (hb)) (And.intro (HF.out.2.2.2.1.step (hb)) (And.intro (HF.out.2.2.2.2.1.below (hb)) (HF.out.2.2.2.2.2.below (hb)))))))
        have TB := hide (n)
        refine hK _ _ (fun _ => HF'.out) ?_
        clear hK K HF hb n
        have HF := hide HF'.out
        clear HF'
        refine Calm.one (i := 6) (l' := #[true, true, true, true, true, true, true, false]) (by kernel_rfl) rfl rfl rfl fun K hK => ?_
        have LTS := hide (And.intro LT1q.out (And.intro LT2q.out (And.intro LT3q.out (And.intro LT1r.out (And.intro LT2r.out (And.intro LT3r.out (show gq ≠ gr by first | exact Nat.ne_of_lt LTqr.out | exact Nat.ne_of_gt LTrq.out)))))))
        have hc0 := BXq.out.cell0
        have hc1 := BXq.out.cell1
        have hf0 := BXq.out.free 0
        have hf1 := BXq.out.free 1
        go_simp
        have HF' := hide (And.intro (below_put HF.out.1 (show w.heap.size ≤ gq by have hx := LTS.out; omega) (.bool sa) (.slice ma la ka)) (And.intro (HF.out.2.1.other (C := gq) (by have hx := LTS.out; omega) (.bool sa) (.slice ma la ka)) (And.intro (HF.out.2.2.1.other (C := gq) (by have hx := LTS.out; omega) (.bool sa) (.slice ma la ka)) (And.intro (HF.out.2.2.2.1.other (C := gq) (by have hx := LTS.out; omega) (.bool sa) (.slice ma la ka)) (And.intro (HF.out.2.2.2.2.1.keep (BXq.out.keeps (by simp) (by simp) (.bool sa) (.slice ma la ka))) (HF.out.2.2.2.2.2.keep (BXq.out.keeps (by simp) (by simp) (.bool sa) (.slice ma la ka))))))))
        replace TA := hide (TA.out.keep (BXq.out.keeps (by simp) (by simp) (.bool sa) (.slice ma la ka)))
        replace TB := hide (TB.out.keep (BXq.out.keeps (by simp) (by simp) (.bool sa) (.slice ma la ka)))
        replace BXr := hide (BXr.out.other (C := gq) (by have hx := LTS.out; omega) (.bool sa) (.slice ma la ka))
        replace BXq := hide (BXq.out.put (.bool sa) (.slice ma la ka))
        refine hK _ _ (fun _ => HF'.out) ?_
        clear hK K HF hc0 hf0 hc1 hf1
        have HF := hide HF'.out
        clear HF'
        generalize ((u2.setCell ⟨gq, 0, none⟩ (.bool sa)).setCell ⟨gq, 1, none⟩ (.slice ma la ka)) = ws1 at *
        refine Calm.one (i := 7) (l' := #[true, true, true, true, true, true, true, true]) (by kernel_rfl) rfl rfl rfl fun K hK => ?_
        have hc0 := BXr.out.cell0
        have hc1 := BXr.out.cell1
        have hf0 := BXr.out.free 0
        have hf1 := BXr.out.free 1
        go_simp
        have HF' := hide (And.intro (below_put HF.out.1 (show w.heap.size ≤ gr by have hx := LTS.out; omega) (.bool sb) (.slice mb lb kb)) (And.intro (HF.out.2.1.other (C := gr) (by have hx := LTS.out; omega) (.bool sb) (.slice mb lb kb)) (And.intro (HF.out.2.2.1.other (C := gr) (by have hx := LTS.out; omega) (.bool sb) (.slice mb lb kb)) (And.intro (HF.out.2.2.2.1.other (C := gr) (by have hx := LTS.out; omega) (.bool sb) (.slice mb lb kb)) (And.intro (HF.out.2.2.2.2.1.keep (BXr.out.keeps (by simp) (by simp) (.bool sb) (.slice mb lb kb))) (HF.out.2.2.2.2.2.keep (BXr.out.keeps (by simp) (by simp) (.bool sb) (.slice mb lb kb))))))))
        replace TA := hide (TA.out.keep (BXr.out.keeps (by simp) (by simp) (.bool sb) (.slice mb lb kb)))
        replace TB := hide (TB.out.keep (BXr.out.keeps (by simp) (by simp) (.bool sb) (.slice mb lb kb)))
        replace BXq := hide (BXq.out.other (C := gr) (by have hx := LTS.out; omega) (.bool sb) (.slice mb lb kb))
        replace BXr := hide (BXr.out.put (.bool sb) (.slice mb lb kb))
        refine hK _ _ (fun _ => HF'.out) ?_
        clear hK K HF hc0 hf0 hc1 hf1
        have HF := hide HF'.out
        clear HF'
        generalize ((ws1.setCell ⟨gr, 0, none⟩ (.bool sb)).setCell ⟨gr, 1, none⟩ (.slice mb lb kb)) = ws2 at *
        refine Calm.done (by kernel_rfl) ?_
        go_wp2
        go_meet
        case rel => exact ⟨gq, gr, sa, ma, la, ka, sb, mb, lb, kb, rfl, rfl, LTS.out, HF.out.1, HF.out.2.2.2.1, BXq.out, BXr.out, TA.out, TB.out⟩
    · go_simp
      have al := below_alloc w0d (.cells #[.bool false, .slice none 0 0] 30)
      have HF' := hide (And.intro (HF.out.1.trans ((al).mono HF.out.1.size)) (And.intro (HF.out.2.1.step (al)) (And.intro (HF.out.2.2.1.step (al)) (And.intro (HF.out.2.2.2.1.step (al)) (And.intro (HF.out.2.2.2.2.1.below (al)) (HF.out.2.2.2.2.2.below (al)))))))
      have BXr := hide (Box2.new w0d 30 (.bool false) (.slice none 0 0))
      have LT1r := hide (HF.out.2.1.lt)
      have LT2r := hide (HF.out.2.2.1.lt)
      have LT3r := hide (HF.out.2.2.2.1.lt)
      have GEr := hide (HF.out.1.size)
      refine hK _ _ (fun _ => HF'.out) ?_
      clear hK K HF al
      have HF := hide HF'.out
      clear HF'
      generalize w0d.alloc (.cells #[.bool false, .slice none 0 0] 30) = wzr at *
      generalize w0d.heap.size = gr at *
      refine Calm.two (i := 1) (j := 4) (l := #[true, true, true, false, false, true, false, false]) (l' := #[true, false, true, false, true, true, false, false]) (by kernel_rfl) rfl rfl rfl rfl rfl rfl (fun K hK => ?_) (fun K hK => ?_)
      · go_simp
        refine (rabs_any _ x _ HF.out.2.2.2.2.1).mono ?_
        rintro e u1 ⟨v, rfl, n, hb⟩
        obtain ⟨sa, ma, la, ka, rfl, n⟩ := n.cells
        replace BXr := hide (BXr.out.step hb)
        have HF' := hide (And.intro (HF.out.1.trans ((hb).mono HF.out.1.size)) (And.intro (HF.out.2.1.step (hb)) (And.intro (HF.out.2.2.1.step (hb)) (And.intro (HF.out.2.2.2.1.step (hb)) (And.intro (HF.out.2.2.2.2.1.below (hb)) (HF.out.2.2.2.2.2.below (hb)))))))
        have TA := hide (n)
        refine hK _ _ (fun _ => HF'.out) ?_
        clear hK K HF hb n
        have HF := hide HF'.out
        clear HF'
        refine Calm.two (i := 3) (j := 4) (l := #[true, true, true, true, false, true, false, false]) (l' := #[true, true, true, false, true, true, false, false]) (by kernel_rfl) rfl rfl rfl rfl rfl rfl (fun K hK => ?_) (fun K hK => ?_)
        · go_simp
          refine (rabs_any _ y _ HF.out.2.2.2.2.2).mono ?_
          rintro e u2 ⟨v, rfl, n, hb⟩
          obtain ⟨sb, mb, lb, kb, rfl, n⟩ := n.cells
          replace TA := hide (TA.out.below (hb))
          replace BXr := hide (BXr.out.step hb)
          have HF' := hide (And.intro (HF.out.1.trans ((hb).mono HF.out.1.size)) (And.intro (HF.out.2.1.step (hb)) (And.intro (HF.out.2.2.1.step (hb)) (And.intro (HF.out.2.2.2.1.step (hb)) (And.intro (HF.out.2.2.2.2.1.below (hb)) (HF.out.2.2.2.2.2.below (hb)))))))
          have TB := hide (n)
          refine hK _ _ (fun _ => HF'.out) ?_
          clear hK K HF hb n
          have HF := hide HF'.out
          clear HF'
          refine Calm.one (i := 4) (l' := #[true, true, true, true, true, true, false, false]) (by kernel_rfl) rfl rfl rfl fun K hK => ?_
          go_simp
          have al := below_alloc u2 (.cells #[.bool false, .slice none 0 0] 30)
          have HF' := hide (And.intro (HF.out.1.trans ((al).mono HF.out.1.size)) (And.intro (HF.out.2.1.step (al)) (And.intro (HF.out.2.2.1.step (al)) (And.intro (HF.out.2.2.2.1.step (al)) (And.intro (HF.out.2.2.2.2.1.below (al)) (HF.out.2.2.2.2.2.below (al)))))))
          have BXq := hide (Box2.new u2 30 (.bool false) (.slice none 0 0))
          replace TA := hide (TA.out.below (al))
          replace TB := hide (TB.out.below (al))
          have LTrq := hide (BXr.out.lt)
          replace BXr := hide (BXr.out.step al)
          have LT1q := hide (HF.out.2.1.lt)
          have LT2q := hide (HF.out.2.2.1.lt)
          have LT3q := hide (HF.out.2.2.2.1.lt)
          have GEq := hide (HF.out.1.size)
          refine hK _ _ (fun _ => HF'.out) ?_
          clear hK K HF al
          have HF := hide HF'.out
          clear HF'
          generalize u2.alloc (.cells #[.bool false, .slice none 0 0] 30) = wzq at *
          generalize u2.heap.size = gq at *
          refine Calm.one (i := 6) (l' := #[true, true, true, true, true, true, true, false]) (by kernel_rfl) rfl rfl rfl fun K hK => ?_
          have LTS := hide (And.intro LT1q.out (And.intro LT2q.out (And.intro LT3q.out (And.intro LT1r.out (And.intro LT2r.out (And.intro LT3r.out (show gq ≠ gr by first | exact Nat.ne_of_lt LTqr.out | exact Nat.ne_of_gt LTrq.out)))))))
          have hc0 := BXq.out.cell0
          have hc1 := BXq.out.cell1
          have hf0 := BXq.out.free 0
          have hf1 := BXq.out.free 1
          go_simp
          have HF' := hide (And.intro (below_put HF.out.1 (show w.heap.size ≤ gq by have hx := LTS.out; omega) (.bool sa) (.slice ma la ka)) (And.intro (HF.out.2.1.other (C := gq) (by have hx := LTS.out; omega) (.bool sa) (.slice ma la ka)) (And.intro (HF.out.2.2.1.other (C := gq) (by have hx := LTS.out; omega) (.bool sa) (.slice ma la ka)) (And.intro (HF.out.2.2.2.1.other (C := gq) (by have hx := LTS.out; omega) (.bool sa) (.slice ma la ka)) (And.intro (HF.out.2.2.2.2.1.keep (BXq.out.keeps (by simp) (by simp) (.bool sa) (.slice ma la ka))) (HF.out.2.2.2.2.2.keep (BXq.out.keeps (by simp) (by simp) (.bool sa) (.slice ma la ka))))))))
          replace TA := hide (TA.out.keep (BXq.out.keeps (by simp) (by simp) (.bool sa) (.slice ma la ka)))
          replace TB := hide (TB.out.keep (BXq.out.keeps (by simp) (by simp) (.bool sa) (.slice ma la ka)))
          replace BXr := hide (BXr.out.other (C := gq) (by have hx := LTS.out; omega) (.bool sa) (.slice ma la ka))
          replace BXq := hide (BXq.out.put (.bool sa) (.slice ma la ka))
          refine hK _ _ (fun _ => HF'.out) ?_
          clear hK K HF hc0 hf0 hc1 hf1
          have HF := hide HF'.out
          clear HF'
          generalize ((wzq.setCell ⟨gq, 0, none⟩ (.bool sa)).setCell ⟨gq, 1, none⟩ (.slice ma la ka)) = ws1 at *
          refine Calm.one (i := 7) (l' := #[true, true, true, true, true, true, true, true]) (by kernel_rfl) rfl rfl rfl fun K hK => ?_
          have hc0 := BXr.out.cell0
          have hc1 := BXr.out.cell1
          have hf0 := BXr.out.free 0
          have hf1 := BXr.out.free 1
          go_simp
          have HF' := hide (And.intro (below_put HF.out.1 (show w.heap.size ≤ gr by have hx := LTS.out; omega) (.bool sb) (.slice mb lb kb)) (And.intro (HF.out.2.1.other (C := gr) (by have hx := LTS.out; omega) (.bool sb) (.slice mb lb kb)) (And.intro (HF.out.2.2.1.other (C := gr) (by have hx := LTS.out; omega) (.bool sb) (.slice mb lb kb)) (And.intro (HF.out.2.2.2.1.other (C := gr) (by have hx := LTS.out; omega) (.bool sb) (.slice mb lb kb)) (And.intro (HF.out.2.2.2.2.1.keep (BXr.out.keeps (by simp) (by simp) (.bool sb) (.slice mb lb kb))) (HF.out.2.2.2.2.2.keep (BXr.out.keeps (by simp) (by simp) (.bool sb) (.slice mb lb kb))))))))
          replace TA := hide (TA.out.keep (BXr.out.keeps (by simp) (by simp) (.bool sb) (.slice mb lb kb)))
          replace TB := hide (TB.out.keep (BXr.out.keeps (by simp) (by simp) (.bool sb) (.slice mb lb kb)))
          replace BXq := hide (BXq.out.other (C := gr) (by have hx := LTS.out; omega) (.bool sb) (.slice mb lb kb))
          replace BXr := hide (BXr.out.put (.bool sb) (.slice mb lb kb))
          refine hK _ _ (fun _ => HF'.out) ?_
          clear hK K HF hc0 hf0 hc1 hf1
          have HF := hide HF'.out
          clear HF'
          generalize ((ws1.setCell ⟨gr, 0, none⟩ (.bool sb)).setCell ⟨gr, 1, none⟩ (.slice mb lb kb)) = ws2 at *
          refine Calm.done (by kernel_rfl) ?_
          go_wp2
          go_meet
          case rel => exact ⟨gq, gr, sa, ma, la, ka, sb, mb, lb, kb, rfl, rfl, LTS.out, HF.out.1, HF.out.2.2.2.1, BXq.out, BXr.out, TA.out, TB.out⟩
        · go_simp
          have al := below_alloc u1 (.cells #[.bool false, .slice none 0 0] 30)
          have HF' := hide (And.intro (HF.out.1.trans ((al).mono HF.out.1.size)) (And.intro (HF.out.2.1.step (al)) (And.intro (HF.out.2.2.1.step (al)) (And.intro (HF.out.2.2.2.1.step (al)) (And.intro (HF.out.2.2.2.2.1.below (al)) (HF.out.2.2.2.2.2.below (al)))))))
          have BXq := hide (Box2.new u1 30 (.bool false) (.slice none 0 0))
          replace TA := hide (TA.out.below (al))
          have LTrq := hide (BXr.out.lt)
          replace BXr := hide (BXr.out.step al)
          have LT1q := hide (HF.out.2.1.lt)
          have LT2q := hide (HF.out.2.2.1.lt)
          have LT3q := hide (HF.out.2.2.2.1.lt)
          have GEq := hide (HF.out.1.size)
          refine hK _ _ (fun _ => HF'.out) ?_
          clear hK K HF al
          have HF := hide HF'.out
          clear HF'
          generalize u1.alloc (.cells #[.bool false, .slice none 0 0] 30) = wzq at *
          generalize u1.heap.size = gq at *
          refine Calm.one (i := 3) (l' := #[true, true, true, true, true, true, false, false]) (by kernel_rfl) rfl rfl rfl fun K hK => ?_
          go_simp
          refine (rabs_any _ y _ HF.out.2.2.2.2.2).mono ?_
          rintro e u2 ⟨v, rfl, n, hb⟩
          obtain ⟨sb, mb, lb, kb, rfl, n⟩ := n.cells
          replace TA := hide (TA.out.below (hb))
          replace BXr := hide (BXr.out.step hb)
          replace BXq := hide (BXq.out.step hb)
          have HF' := hide (And.intro (HF.out.1.trans ((hb).mono HF.out.1.size)) (And.intro (HF.out.2.1.step (hb)) (And.intro (HF.out.2.2.1.step (hb)) (And.intro (HF.out.2.2.2.1.step (hb)) (And.intro (HF.out.2.2.2.2.1.below (hb)) (HF.out.2.2.2.2.2.below (hb)))))))
          have TB := hide (n)
          refine hK _ _ (fun _ => HF'.out) ?_
          clear hK K HF hb n
          have HF := hide HF'.out
          clear HF'
          refine Calm.one (i := 6) (l' := #[true, true, true, true, true, true, true, false]) (by kernel_rfl) rfl rfl rfl fun K hK => ?_
          have LTS := hide (And.intro LT1q.out (And.intro LT2q.out (And.intro LT3q.out (And.intro LT1r.out (And.intro LT2r.out (And.intro LT3r.out (show gq ≠ gr by first | exact Nat.ne_of_lt LTqr.out | exact Nat.ne_of_gt LTrq.out)))))))
          have hc0 := BXq.out.cell0
          have hc1 := BXq.out.cell1
          have hf0 := BXq.out.free 0
          have hf1 := BXq.out.free 1
          go_simp
          have HF' := hide (And.intro (below_put HF.out.1 (show w.heap.size ≤ gq by have hx := LTS.out; omega) (.bool sa) (.slice ma la ka)) (And.intro (HF.out.2.1.other (C := gq) (by have hx := LTS.out; omega) (.bool sa) (.slice ma la ka)) (And.intro (HF.out.2.2.1.other (C := gq) (by have hx := LTS.out; omega) (.bool sa) (.slice ma la ka)) (And.intro (HF.out.2.2.2.1.other (C := gq) (by have hx := LTS.out; omega) (.bool sa) (.slice ma la ka)) (And.intro (HF.out.2.2.2.2.1.keep (BXq.out.keeps (by simp) (by simp) (.bool sa) (.slice ma la ka))) (HF.out.2.2.2.2.2.keep (BXq.out.keeps (by simp) (by simp) (.bool sa) (.slice ma la ka))))))))
          replace TA := hide (TA.out.keep (BXq.out.keeps (by simp) (by simp) (.bool sa) (.slice ma la ka)))
          replace TB := hide (TB.out.keep (BXq.out.keeps (by simp) (by simp) (.bool sa) (.slice ma la ka)))
          replace BXr := hide (BXr.out.other (C := gq) (by have hx := LTS.out; omega) (.bool sa) (.slice ma la ka))
          replace BXq := hide (BXq.out.put (.bool sa) (.slice ma la ka))
          refine hK _ _ (fun _ => HF'.out) ?_
          clear hK K HF hc0 hf0 hc1 hf1
          have HF := hide HF'.out
          clear HF'
          generalize ((u2.setCell ⟨gq, 0, none⟩ (.bool sa)).setCell ⟨gq, 1, none⟩ (.slice ma la ka)) = ws1 at *
          refine Calm.one (i := 7) (l' := #[true, true, true, true, true, true, true, true]) (by kernel_rfl) rfl rfl rfl fun K hK => ?_
          have hc0 := BXr.out.cell0
          have hc1 := BXr.out.cell1
          have hf0 := BXr.out.free 0
          have hf1 := BXr.out.free 1
          go_simp
          have HF' := hide (And.intro (below_put HF.out.1 (show w.heap.size ≤ gr by have hx := LTS.out; omega) (.bool sb) (.slice mb lb kb)) (And.intro (HF.out.2.1.other (C := gr) (by have hx := LTS.out; omega) (.bool sb) (.slice mb lb kb)) (And.intro (HF.out.2.2.1.other (C := gr) (by have hx := LTS.out; omega) (.bool sb) (.slice mb lb kb)) (And.intro (HF.out.2.2.2.1.other (C := gr) (by have hx := LTS.out; omega) (.bool sb) (.slice mb lb kb)) (And.intro (HF.out.2.2.2.2.1.keep (BXr.out.keeps (by simp) (by simp) (.bool sb) (.slice mb lb kb))) (HF.out.2.2.2.2.2.keep (BXr.out.keeps (by simp) (by simp) (.bool sb) (.slice mb lb kb))))))))
          replace TA := hide (TA.out.keep (BXr.out.keeps (by simp) (by simp) (.bool sb) (.slice mb lb kb)))
          replace TB := hide (TB.out.keep (BXr.out.keeps (by simp) (by simp) (.bool sb) (.slice mb lb kb)))
          replace BXq := hide (BXq.out.other (C := gr) (by have hx := LTS.out; omega) (.bool sb) (.slice mb lb kb))
          replace BXr := hide (BXr.out.put (.bool sb) (.slice mb lb kb))
          refine hK _ _ (fun _ => HF'.out) ?_
          clear hK K HF hc0 hf0 hc1 hf1
          have HF := hide HF'.out
          clear HF'
          generalize ((ws1.setCell ⟨gr, 0, none⟩ (.bool sb)).setCell ⟨gr, 1, none⟩ (.slice mb lb kb)) = ws2 at *
          refine Calm.done (by kernel_rfl) ?_
          go_wp2
          go_meet
          case rel => exact ⟨gq, gr, sa, ma, la, ka, sb, mb, lb, kb, rfl, rfl, LTS.out, HF.out.1, HF.out.2.2.2.1, BXq.out, BXr.out, TA.out, TB.out⟩
      · go_simp
        have al := below_alloc wzr (.cells #[.bool false, .slice none 0 0] 30)
        have HF' := hide (And.intro (HF.out.1.trans ((al).mono HF.out.1.size)) (And.intro (HF.out.2.1.step (al)) (And.intro (HF.out.2.2.1.step (al)) (And.intro (HF.out.2.2.2.1.step (al)) (And.intro (HF.out.2.2.2.2.1.below (al)) (HF.out.2.2.2.2.2.below (al)))))))
        have BXq := hide (Box2.new wzr 30 (.bool false) (.slice none 0 0))
        have LTrq := hide (BXr.out.lt)
        replace BXr := hide (BXr.out.step al)
        have LT1q := hide (HF.out.2.1.lt)
        have LT2q := hide (HF.out.2.2.1.lt)
        have LT3q := hide (HF.out.2.2.2.1.lt)
        have GEq := hide (HF.out.1.size)
        refine hK _ _ (fun _ => HF'.out) ?_
        clear hK K HF al
        have HF := hide HF'.out
        clear HF'
        generalize wzr.alloc (.cells #[.bool false, .slice none 0 0] 30) = wzq at *
        generalize wzr.heap.size = gq at *
        refine Calm.one (i := 1) (l' := #[true, true, true, false, true, true, false, false]) (by kernel_rfl) rfl rfl rfl fun K hK => ?_
        go_simp
        refine (rabs_any _ x _ HF.out.2.2.2.2.1).mono ?_
        rintro e u1 ⟨v, rfl, n, hb⟩
        obtain ⟨sa, ma, la, ka, rfl, n⟩ := n.cells
        replace BXr := hide (BXr.out.step hb)
        replace BXq := hide (BXq.out.step hb)
        have HF' := hide (And.intro (HF.out.1.trans ((hb).mono HF.out.1.size)) (And.intro (HF.out.2.1.step (hb)) (And.intro (HF.out.2.2.1.step (hb)) (And.intro (HF.out.2.2.2.1.step (hb)) (And.intro (HF.out.2.2.2.2.1.below (hb)) (HF.out.2.2.2.2.2.below (hb)))))))
        have TA := hide (n)
        refine hK _ _ (fun _ => HF'.out) ?_
        clear hK K HF hb n
        have HF := hide HF'.out
        clear HF'
        refine Calm.one (i := 3) (l' := #[true, true, true, true, true, true, false, false]) (by kernel_rfl) rfl rfl rfl fun K hK => ?_
        go_simp
        refine (rabs_any _ y _ HF.out.2.2.2.2.2).mono ?_
        rintro e u2 ⟨v, rfl, n, hb⟩
        obtain ⟨sb, mb, lb, kb, rfl, n⟩ := n.cells
        replace TA := hide (TA.out.below (hb))
        replace BXr := hide (BXr.out.step hb)
        replace BXq := hide (BXq.out.step hb)
        have HF' := hide (And.intro (HF.out.1.trans ((hb).mono HF.out.1.size)) (And.intro (HF.out.2.1.step (hb)) (And.intro (HF.out.2.2.1.step (hb)) (And.intro (HF.out.2.2.2.1.step (hb)) (And.intro (HF.out.2.2.2.2.1.below (hb)) (HF.out.2.2.2.2.2.below (hb)))))))
        have TB := hide (n)
        refine hK _ _ (fun _ => HF'.out) ?_
        clear hK K HF hb n
        have HF := hide HF'.out
        clear HF'
        refine Calm.one (i := 6) (l' := #[true, true, true, true, true, true, true, false]) (by kernel_rfl) rfl rfl rfl fun K hK => ?_
        have LTS := hide (And.intro LT1q.out (And.intro LT2q.out (And.intro LT3q.out (And.intro LT1r.out (And.intro LT2r.out (And.intro LT3r.out (show gq ≠ gr by first | exact Nat.ne_of_lt LTqr.out | exact Nat.ne_of_gt LTrq.out)))))))
        have hc0 := BXq.out.cell0
        have hc1 := BXq.out.cell1
        have hf0 := BXq.out.free 0
        have hf1 := BXq.out.free 1
        go_simp
        have HF' := hide (And.intro (below_put HF.out.1 (show w.heap.size ≤ gq by have hx := LTS.out; omega) (.bool sa) (.slice ma la ka)) (And.intro (HF.out.2.1.other (C := gq) (by have hx := LTS.out; omega) (.bool sa) (.slice ma la ka)) (And.intro (HF.out.2.2.1.other (C := gq) (by have hx := LTS.out; omega) (.bool sa) (.slice ma la ka)) (And.intro (HF.out.2.2.2.1.other (C := gq) (by have hx := LTS.out; omega) (.bool sa) (.slice ma la ka)) (And.intro (HF.out.2.2.2.2.1.keep (BXq.out.keeps (by simp) (by simp) (.bool sa) (.slice ma la ka))) (HF.out.2.2.2.2.2.keep (BXq.out.keeps (by simp) (by simp) (.bool sa) (.slice ma la ka))))))))
        replace TA := hide (TA.out.keep (BXq.out.keeps (by simp) (by simp) (.bool sa) (.slice ma la ka)))
        replace TB := hide (TB.out.keep (BXq.out.keeps (by simp) (by simp) (.bool sa) (.slice ma la ka)))
        replace BXr := hide (BXr.out.other (C := gq) (by have hx := LTS.out; omega) (.bool sa) (.slice ma la ka))
        replace BXq := hide (BXq.out.put (.bool sa) (.slice ma la ka))
        refine hK _ _ (fun _ => HF'.out) ?_
        clear hK K HF hc0 hf0 hc1 hf1
        have HF := hide HF'.out
        clear HF'
        generalize ((u2.setCell ⟨gq, 0, none⟩ (.bool sa)).setCell ⟨gq, 1, none⟩ (.slice ma la ka)) = ws1 at *
        refine Calm.one (i := 7) (l' := #[true, true, true, true, true, true, true, true]) (by kernel_rfl) rfl rfl rfl fun K hK => ?_
        have hc0 := BXr.out.cell0
        have hc1 := BXr.out.cell1
        have hf0 := BXr.out.free 0
        have hf1 := BXr.out.free 1
        go_simp
        have HF' := hide (And.intro (below_put HF.out.1 (show w.heap.size ≤ gr by have hx := LTS.out; omega) (.bool sb) (.slice mb lb kb)) (And.intro (HF.out.2.1.other (C := gr) (by have hx := LTS.out; omega) (.bool sb) (.slice mb lb kb)) (And.intro (HF.out.2.2.1.other (C := gr) (by have hx := LTS.out; omega) (.bool sb) (.slice mb lb kb)) (And.intro (HF.out.2.2.2.1.other (C := gr) (by have hx := LTS.out; omega) (.bool sb) (.slice mb lb kb)) (And.intro (HF.out.2.2.2.2.1.keep (BXr.out.keeps (by simp) (by simp) (.bool sb) (.slice mb lb kb))) (HF.out.2.2.2.2.2.keep (BXr.out.keeps (by simp) (by simp) (.bool sb) (.slice mb lb kb))))))))
        replace TA := hide (TA.out.keep (BXr.out.keeps (by simp) (by simp) (.bool sb) (.slice mb lb kb)))
        replace TB := hide (TB.out.keep (BXr.out.keeps (by simp) (by simp) (.bool sb) (.slice mb lb kb)))
        replace BXq := hide (BXq.out.other (C := gr) (by have hx := LTS.out; omega) (.bool sb) (.slice mb lb kb))
        replace BXr := hide (BXr.out.put (.bool sb) (.slice mb lb kb))
        refine hK _ _ (fun _ => HF'.out) ?_
        clear hK K HF hc0 hf0 hc1 hf1
        have HF := hide HF'.out
        clear HF'
        generalize ((ws1.setCell ⟨gr, 0, none⟩ (.bool sb)).setCell ⟨gr, 1, none⟩ (.slice mb lb kb)) = ws2 at *
        refine Calm.done (by kernel_rfl) ?_
        go_wp2
        go_meet
        case rel => exact ⟨gq, gr, sa, ma, la, ka, sb, mb, lb, kb, rfl, rfl, LTS.out, HF.out.1, HF.out.2.2.2.1, BXq.out, BXr.out, TA.out, TB.out⟩
  case rest =>
  obtain ⟨gq, gr, sa, ma, la, ka, sb, mb, lb, kb, rfl, rfl, hlts, hB, h2, hq, hr, hiq, hir⟩ := hcut
  have LTS := hide hlts
  clear HB P0 P1 P2 I1 I2
  have HB := hide hB
  have P2 := hide h2
  have PQ := hide hq
  have PR := hide hr
  have IQ := hide hiq
  have IR := hide hir
  clear hlts hB h2 hq hr hiq hir
  generalize hwc : wc = w5 at *
  clear hwc
  go_wp2
  go_loopw [7, 8] (fun u7 u8 wr => ∃ (A B : Nat) (sa : Bool) (ma : Option Addr) (la ka : Nat) (sb : Bool) (mb : Option Addr) (lb kb : Nat), Nat.gcd A B = Int.gcd x y ∧ (D.lim A).length ≤ 10000000 ∧ (D.lim B).length ≤ 10000000 ∧ Below w.heap.size w wr ∧ Box2 wr (w.heap.size + 1 + 1) 30 (.bool false) (.slice none 0 0) ∧ Box2 wr gq 30 (.bool sa) (.slice ma la ka) ∧ Box2 wr gr 30 (.bool sb) (.slice mb lb kb) ∧ RInt wr (.agg #[.bool sa, .slice ma la ka]) (A : Int) ∧ RInt wr (.agg #[.bool sb, .slice mb lb kb]) (B : Int)) (fun _ _ wr => dnumAt wr gr)
  case atStart => exact ⟨x.natAbs, y.natAbs, sa, ma, la, ka, sb, mb, lb, kb, rfl, l1, l2, HB.out, P2.out, PQ.out, PR.out, IQ.out, IR.out⟩
  case round =>
    clear HB P2 PQ PR IQ IR
    obtain ⟨A, B, sa, ma, la, ka, sb, mb, lb, kb, hg, hla, hlb, hB, h2, hq, hr, hiq, hir⟩ := hrel
    have HG := hide hg
    have HLA := hide hla
    have HLB := hide hlb
    have HB := hide hB
    have P2 := hide h2
    have PQ := hide hq
    have PR := hide hr
    have IQ := hide hiq
    have IR := hide hir
    clear hg hla hlb hB h2 hq hr hiq hir
    have PR0 := hide PR.out
    have IR0 := hide IR.out
    have HLN := hide IR.out.len
    have hkb := HLN.out.2.2.1
    have hlk := HLN.out.2.2.2
    unfold maxLen at hkb
    have r1 := PR.out.cell1
    by_cases hB0 : B = 0
    · subst hB0
      have e0 : lb = 0 := HLN.out.1 rfl
      subst e0
      have q0 := PQ.out.cell0
      have q1 := PQ.out.cell1
      have hc0 := P2.out.cell0
      have hc1 := P2.out.cell1
      have hf0 := P2.out.free 0
      have hf1 := P2.out.free 1
      go_wp2
      refine ret_ref rfl (w.heap.size + 1 + 1) _ _ _ _ rfl ((P2.out.set0 _).set1 _) rfl ?_
      exact ⟨_, rfl, by have h := IQ.out.keep (P2.out.keeps (by simp) (by simp) (.bool sa) (.slice ma la ka)); have hg := HG.out; rw [Nat.gcd_zero_right] at hg; rw [← hg]; exact h, below_put HB.out (by omega) _ _⟩
    · have hlp : 0 < lb := HLN.out.2.1 (by omega)
      have HBP := hide (Nat.pos_of_ne_zero hB0)
      clear hB0
      have r0 := PR.out.cell0
      have q0 := PQ.out.cell0
      have q1 := PQ.out.cell1
      go_wp2_with fail
      refine (rdm_any _ _ (A : Int) (B : Int) _ IQ.out IR.out (by rw [Int.natAbs_natCast]; exact HLA.out) (by rw [Int.natAbs_natCast]; exact HLB.out) (by have := HBP.out; omega)).mono ?_
      rintro e u1 ⟨vq, vr, rfl, nq, nr, hb⟩
      obtain ⟨s3, m3, l3, k3, rfl, nq⟩ := nq.cells
      obtain ⟨s4, m4, l4, k4, rfl, nr⟩ := nr.cells
      rw [← Int.natCast_emod] at nr
      replace HB := hide (HB.out.trans (hb.mono HB.out.size))
      replace P2 := hide (P2.out.step hb)
      replace PQ := hide (PQ.out.step hb)
      replace PR := hide (PR.out.step hb)
      replace IR := hide (IR.out.below hb)
      have I4 := hide nr
      clear hb nq nr r0 r1 q0 q1 IQ
      go_upto_region 4 with fail
      have al1 := below_alloc u1 (.cells #[.bool s3, .slice m3 l3 k3] 30)
      have al2 := below_alloc (u1.alloc (.cells #[.bool s3, .slice m3 l3 k3] 30)) (.cells #[.bool s4, .slice m4 l4 k4] 30)
      have al := al1.trans (al2.mono (by rw [World.size_alloc]; omega))
      have LT4 : Hid (gq < u1.heap.size ∧ gr < u1.heap.size) := hide ⟨PQ.out.lt, PR.out.lt⟩
      have P4 := Box2.new (u1.alloc (.cells #[.bool s3, .slice m3 l3 k3] 30)) 30 (.bool s4) (.slice m4 l4 k4)
      rw [World.size_alloc] at P4
      replace P4 := hide P4
      replace HB := hide (HB.out.trans (al.mono HB.out.size))
      replace P2 := hide (P2.out.step al)
      replace PQ := hide (PQ.out.step al)
      replace PR := hide (PR.out.step al)
      replace IR := hide (IR.out.below al)
      replace I4 := hide (I4.out.below al)
      clear al1 al2 al
      generalize (u1.alloc (.cells #[.bool s3, .slice m3 l3 k3] 30)).alloc (.cells #[.bool s4, .slice m4 l4 k4] 30) = u2 at *
      generalize u1.heap.size = g4 at *
      have r0 := PR.out.cell0
      have r1 := PR.out.cell1
      have rf0 := PR.out.free 0
      have rf1 := PR.out.free 1
      have q0 := PQ.out.cell0
      have q1 := PQ.out.cell1
      have qf0 := PQ.out.free 0
      have qf1 := PQ.out.free 1
      have t0 := P4.out.cell0
      have t1 := P4.out.cell1
      have hne := LTS.out.2.2.2.2.2.2
      have hlt4 := LT4.out
      obtain ⟨hl41, hl42⟩ := hlt4
      go_wp2_with fail
      go_region
      all_goals
        go_wp2
        go_roundw
        case rel =>
          refine ⟨B, A % B, sb, mb, lb, kb, s4, m4, l4, k4, by rw [← HG.out, Nat.gcd_comm A B, Nat.gcd_rec B A, Nat.gcd_comm], HLB.out, Nat.le_trans (dlen_mono (Nat.mod_le A B)) HLA.out, ?_, ?_, ?_, ?_, ?_, ?_⟩
          · exact (below_put (below_put HB.out (show w.heap.size ≤ gq by have := LTS.out; omega) (.bool sb) (.slice mb lb kb)) (show w.heap.size ≤ gr by have := LTS.out; omega) (.bool s4) (.slice m4 l4 k4)).drew
          · exact ((P2.out.other (C := gq) (by have := LTS.out; omega) (.bool sb) (.slice mb lb kb)).other (C := gr) (by have := LTS.out; omega) (.bool s4) (.slice m4 l4 k4)).drew
          · exact ((PQ.out.put (.bool sb) (.slice mb lb kb)).other (C := gr) (by have := LTS.out; omega) (.bool s4) (.slice m4 l4 k4)).drew
          · exact ((PR.out.other (C := gq) (by have := LTS.out; omega) (.bool sb) (.slice mb lb kb)).put (.bool s4) (.slice m4 l4 k4)).drew
          · exact ((IR.out.keep (PQ.out.keeps (by simp) (by simp) (.bool sb) (.slice mb lb kb))).keep ((PR.out.other (C := gq) (by have := LTS.out; omega) (.bool sb) (.slice mb lb kb)).keeps (by simp) (by simp) (.bool s4) (.slice m4 l4 k4))).drew
          · exact ((I4.out.keep (PQ.out.keeps (by simp) (by simp) (.bool sb) (.slice mb lb kb))).keep ((PR.out.other (C := gq) (by have := LTS.out; omega) (.bool sb) (.slice mb lb kb)).keeps (by simp) (by simp) (.bool s4) (.slice m4 l4 k4))).drew
        case measure =>
          have e1 := dnumAt_eq PR0.out IR0.out
          have e2 := dnumAt_eq ((PR.out.other (C := gq) (by have := LTS.out; omega) (.bool sb) (.slice mb lb kb)).put (.bool s4) (.slice m4 l4 k4)).drew ((I4.out.keep (PQ.out.keeps (by simp) (by simp) (.bool sb) (.slice mb lb kb))).keep ((PR.out.other (C := gq) (by have := LTS.out; omega) (.bool sb) (.slice mb lb kb)).keeps (by simp) (by simp) (.bool s4) (.slice m4 l4 k4))).drew
          rw [e1, e2]
          exact Nat.mod_lt _ HBP.out
end Go.Proofs.Ytbaicocncalfaaa
