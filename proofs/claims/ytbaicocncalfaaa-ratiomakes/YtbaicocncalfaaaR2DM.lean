/- The document's answers for layer 2 (swageref02): DivMod. -/
import Derived.Test.YtbaicocncalfaaaR2Divide
import Derived.Test.YtbaicocncalfaaaIDiv
import Derived.Test.YtbaicocncalfaaaIRead
namespace Go.Proofs.Ytbaicocncalfaaa
open Go.RowKit

theorem RInt.cells {w : World} {v : Value} {z : Int} (h : RInt w v z) : ∃ s m n c, v = .agg #[.bool s, .slice m n c] ∧ RInt w (.agg #[.bool s, .slice m n c]) z := by
  have h' := h
  obtain ⟨s, n, m, c, rfl, _, _, _⟩ := h'
  exact ⟨s, m, _, c, rfl, h⟩
theorem RInt.neg {w : World} {s : Bool} {l : Value} {z : Int} (h : RInt w (.agg #[.bool s, l]) z) : (s = true → z < 0) ∧ (z < 0 → s = true) := by
  obtain ⟨b, n, a, c, he, _, rfl, h0⟩ := h
  simp only [Value.agg.injEq, Array.mk.injEq, List.cons.injEq, Value.bool.injEq, and_true] at he
  obtain ⟨rfl, _⟩ := he
  cases s with
  | true => have : n ≠ 0 := fun e => absurd (h0 e) (by decide)
            rw [sg_true]; exact ⟨fun _ => by omega, fun _ => rfl⟩
  | false => rw [sg_false]; exact ⟨fun h => absurd h (by decide), fun h => by omega⟩
theorem nboxes4 (t : TypeId) (w : World) (x y x' y' x'' y'' u v : Value) : ∀ W, W = (((w.alloc (.cells #[x, y] t)).alloc (.cells #[x', y'] t)).alloc (.cells #[x'', y''] t)).alloc (.cells #[u, v] t) →
    Box2 W w.heap.size t x y ∧ Box2 W (w.heap.size + 1) t x' y' ∧ Box2 W (w.heap.size + 1 + 1) t x'' y'' ∧ Box2 W (w.heap.size + 1 + 1 + 1) t u v ∧ Below w.heap.size w W := by
  rintro W rfl
  have h := nboxes3 t w x y x' y' x'' y''
  have hb := below_alloc (((w.alloc (.cells #[x, y] t)).alloc (.cells #[x', y'] t)).alloc (.cells #[x'', y''] t)) (.cells #[u, v] t)
  refine ⟨h.1.step hb, h.2.1.step hb, h.2.2.1.step hb, ?_, h.2.2.2.trans (hb.mono (by simp; omega))⟩
  have := Box2.new (((w.alloc (.cells #[x, y] t)).alloc (.cells #[x', y'] t)).alloc (.cells #[x'', y''] t)) t u v
  simpa only [World.size_alloc] using this
theorem ret_two {fn : Func} {R : Ending → World → Prop} {a : Act} {w : World} {p q : Tmp} (h : fn.results = #[.cell p 30, .cell q 30]) (g g' : Nat) (x y x' y' : Value)
    (hp : a.tmps.getD p undef = .pointer (some ⟨g, 0, none⟩)) (hq : a.tmps.getD q undef = .pointer (some ⟨g', 0, none⟩)) (hg : Box2 w g 30 x y) (hg' : Box2 w g' 30 x' y') (hd : a.defers = []) (hR : R (.returned (.tuple #[.agg #[x, y], .agg #[x', y']])) w) : bodyPost Try.prog fn R .ret a w := by
  refine bodyPost_ret ?_ hd hR
  have hp' : a.tmps[p]?.getD undef = .pointer (some ⟨g, 0, none⟩) := by simpa using hp
  have hq' : a.tmps[q]?.getD undef = .pointer (some ⟨g', 0, none⟩) := by simpa using hq
  simp [results, h, hp', hq', asAddr, run_loadVar_row w g 30 30 #[x, y] (0, 0) _ hg Try.underlying30 rfl Try.infoRef, run_loadVar_row w g' 30 30 #[x', y'] (0, 0) _ hg' Try.underlying30 rfl Try.infoRef]
theorem sgn_dlen (z : Int) : (D.lim (sgnI z).natAbs).length ≤ 100000000 := Nat.le_trans (D.lim_length_le (k := 1) (by unfold sgnI D.BB; split; decide; split <;> decide)) (by decide)

set_option maxRecDepth 100000 in
set_option maxHeartbeats 8000000 in
theorem rdm_any (v1 v2 : Value) (x y : Int) (w : World) (h1 : RInt w v1 x) (h2 : RInt w v2 y) (l1 : (D.lim x.natAbs).length ≤ 10000000) (l2 : (D.lim y.natAbs).length ≤ 10000000) (hy : y ≠ 0) :
    Calls Try.prog 60 #[v1, v2] w fun e w' => ∃ q r, e = .returned (.tuple #[q, r]) ∧ RInt w' q (x / y) ∧ RInt w' r (x % y) ∧ Below w.heap.size w w' := by
  have Y2 := hide h2
  obtain ⟨b1, n1, a1, c1, rfl, hn1, rfl, h01⟩ := h1
  obtain ⟨b2, n2, a2, c2, rfl, hn2, rfl, h02⟩ := h2
  replace hy : 0 < n2 := by rcases Nat.eq_zero_or_pos n2 with h | h; exact absurd (by rw [h, sg_zero]) hy; exact h
  rw [sg_abs] at l1 l2
  have HE := hide (nboxes4 30 w (.bool b1) (.slice a1 (D.lim n1).length c1) (.bool b2) (.slice a2 (D.lim n2).length c2) (.bool false) (.slice none 0 0) (.bool false) (.slice none 0 0) _ rfl)
  have HN1 := hide (hn1.below HE.out.2.2.2.2)
  have HN2 := hide (hn2.below HE.out.2.2.2.2)
  have LQ : Hid ((D.lim (sg (b1 != b2) (n1 / n2)).natAbs).length ≤ 100000000) := hide (by rw [sg_abs]; exact Nat.le_trans (dlen_mono (Nat.div_le_self _ _)) (by omega))
  have LR : Hid ((D.lim (sg b1 (n1 % n2)).natAbs).length ≤ 100000000) := hide (by rw [sg_abs]; exact Nat.le_trans (dlen_mono (Nat.mod_le _ _)) (by omega))
  have LY : Hid ((D.lim (sg b2 n2).natAbs).length ≤ 100000000) := hide (by rw [sg_abs]; omega)
  clear hn1 h01 hn2 h02
  go_enter Try.func60, Try.ntmps60
  go_wp2_with fail
  refine (rdivide_any _ _ n1 n2 _ HN1.out HN2.out hy l1 l2).mono ?_
  rintro e w1 ⟨lq, lr, rfl, nq, nr, hb⟩
  have HB := hide (HE.out.2.2.2.2.trans (hb.mono HE.out.2.2.2.2.size))
  have P0 := hide (HE.out.1.step hb)
  have P1 := hide (HE.out.2.1.step hb)
  have P2 := hide (HE.out.2.2.1.step hb)
  have P3 := hide (HE.out.2.2.2.1.step hb)
  have NQ := hide nq
  have NR := hide nr
  clear hb HE HN1 HN2 nq nr l1 l2
  generalize (D.lim n1).length = L1 at *
  generalize (D.lim n2).length = L2 at *
  go_wp2_with fail
  go_cut [8, 9] from 18 (fun pq pr wx => ∃ gq gr sq mq kq cq sr mr kr cr, pq = .pointer (some ⟨gq, 0, none⟩) ∧ pr = .pointer (some ⟨gr, 0, none⟩) ∧ (w.heap.size < gq ∧ (w.heap.size + 1) < gq ∧ (w.heap.size + 1 + 1) < gq ∧ (w.heap.size + 1 + 1 + 1) < gq ∧ w.heap.size < gr ∧ (w.heap.size + 1) < gr ∧ (w.heap.size + 1 + 1) < gr ∧ (w.heap.size + 1 + 1 + 1) < gr ∧ gq ≠ gr) ∧ Below w.heap.size w wx ∧ Box2 wx w.heap.size 30 (.bool b1) (.slice a1 L1 c1) ∧ Box2 wx (w.heap.size + 1) 30 (.bool b2) (.slice a2 L2 c2) ∧ Box2 wx (w.heap.size + 1 + 1) 30 (.bool false) (.slice none 0 0) ∧ Box2 wx (w.heap.size + 1 + 1 + 1) 30 (.bool false) (.slice none 0 0) ∧ Box2 wx gq 30 (.bool sq) (.slice mq kq cq) ∧ Box2 wx gr 30 (.bool sr) (.slice mr kr cr) ∧ RInt wx (.agg #[.bool sq, .slice mq kq cq]) (sg (b1 != b2) (n1 / n2)) ∧ RInt wx (.agg #[.bool sr, .slice mr kr cr]) (sg b1 (n1 % n2)))
  case first =>
    refine wp_calm (fun w' => Below w.heap.size w w' ∧ Box2 w' w.heap.size 30 (.bool b1) (.slice a1 L1 c1) ∧ Box2 w' (w.heap.size + 1) 30 (.bool b2) (.slice a2 L2 c2) ∧ Box2 w' (w.heap.size + 1 + 1) 30 (.bool false) (.slice none 0 0) ∧ Box2 w' (w.heap.size + 1 + 1 + 1) 30 (.bool false) (.slice none 0 0) ∧ Nums w' lq (D.lim (n1 / n2)) ∧ Nums w' lr (D.lim (n1 % n2))) (fun _ => true) 15 #[false, false, false, false, false, false, false, false, false, false, false, false, false, false, false] (by kernel_rfl) rfl rfl ?_
    have HF := hide (And.intro (HB.out.drew) (And.intro (P0.out.drew) (And.intro (P1.out.drew) (And.intro (P2.out.drew) (And.intro (P3.out.drew) (And.intro (NQ.out.drew) (NR.out.drew)))))))
    generalize w1.drew = w1d at *
    refine Calm.take (i := 0) (v := ?_) (a' := ?_) (l' := #[true, false, false, false, false, false, false, false, false, false, false, false, false, false, false]) (d := some 18) rfl (by kernel_rfl) (by kernel_rfl) (by kernel_rfl) (by kernel_rfl) (fun _ _ _ h => h) HF.out rfl ?_ rfl rfl ?_ ?_
    rotate_left
    · intro w' hF; clear hF; go_simp; try rfl
    rotate_left
    · simp only [Act.put]; exact rfl
    refine Calm.take (i := 1) (v := ?_) (a' := ?_) (l' := #[true, true, false, false, false, false, false, false, false, false, false, false, false, false, false]) (d := some 19) rfl (by kernel_rfl) (by kernel_rfl) (by kernel_rfl) (by kernel_rfl) (fun _ _ _ h => h) HF.out rfl ?_ rfl rfl ?_ ?_
    rotate_left
    · intro w' hF; have f10 := hF.2.1.cell0; have f11 := hF.2.1.cell1; have f20 := hF.2.2.1.cell0; have f21 := hF.2.2.1.cell1; have f30 := hF.2.2.2.1.cell0; have f31 := hF.2.2.2.1.cell1; have f40 := hF.2.2.2.2.1.cell0; have f41 := hF.2.2.2.2.1.cell1; clear hF; go_simp; try rfl
    rotate_left
    · simp only [Act.put]; exact rfl
    refine Calm.take (i := 2) (v := ?_) (a' := ?_) (l' := #[true, true, true, false, false, false, false, false, false, false, false, false, false, false, false]) (d := some 20) rfl (by kernel_rfl) (by kernel_rfl) (by kernel_rfl) (by kernel_rfl) (fun _ _ _ h => h) HF.out rfl ?_ rfl rfl ?_ ?_
    rotate_left
    · intro w' hF; clear hF; go_simp; try rfl
    rotate_left
    · simp only [Act.put]; exact rfl
    refine Calm.take (i := 3) (v := ?_) (a' := ?_) (l' := #[true, true, true, true, false, false, false, false, false, false, false, false, false, false, false]) (d := some 21) rfl (by kernel_rfl) (by kernel_rfl) (by kernel_rfl) (by kernel_rfl) (fun _ _ _ h => h) HF.out rfl ?_ rfl rfl ?_ ?_
    rotate_left
    · intro w' hF; have f10 := hF.2.1.cell0; have f11 := hF.2.1.cell1; have f20 := hF.2.2.1.cell0; have f21 := hF.2.2.1.cell1; have f30 := hF.2.2.2.1.cell0; have f31 := hF.2.2.2.1.cell1; have f40 := hF.2.2.2.2.1.cell0; have f41 := hF.2.2.2.2.1.cell1; clear hF; go_simp; try rfl
    rotate_left
    · simp only [Act.put]; exact rfl
    refine Calm.take (i := 4) (v := ?_) (a' := ?_) (l' := #[true, true, true, true, true, false, false, false, false, false, false, false, false, false, false]) (d := some 22) rfl (by kernel_rfl) (by kernel_rfl) (by kernel_rfl) (by kernel_rfl) (fun _ _ _ h => h) HF.out rfl ?_ rfl rfl ?_ ?_
    rotate_left
    · intro w' hF; clear hF; go_simp; try rfl
    rotate_left
    · simp only [Act.put]; exact rfl
    refine Calm.take (i := 5) (v := ?_) (a' := ?_) (l' := #[true, true, true, true, true, true, false, false, false, false, false, false, false, false, false]) (d := some 23) rfl (by kernel_rfl) (by kernel_rfl) (by kernel_rfl) (by kernel_rfl) (fun _ _ _ h => h) HF.out rfl ?_ rfl rfl ?_ ?_
    rotate_left
    · intro w' hF; clear hF; go_simp; try rfl
    rotate_left
    · simp only [Act.put]; exact rfl
    refine Calm.take (i := 7) (v := ?_) (a' := ?_) (l' := #[true, true, true, true, true, true, false, true, false, false, false, false, false, false, false]) (d := some 25) rfl (by kernel_rfl) (by kernel_rfl) (by kernel_rfl) (by kernel_rfl) (fun _ _ _ h => h) HF.out rfl ?_ rfl rfl ?_ ?_
    rotate_left
    · intro w' hF; clear hF; go_simp; try rfl
    rotate_left
    · simp only [Act.put]; exact rfl
    refine Calm.take (i := 8) (v := ?_) (a' := ?_) (l' := #[true, true, true, true, true, true, false, true, true, false, false, false, false, false, false]) (d := some 26) rfl (by kernel_rfl) (by kernel_rfl) (by kernel_rfl) (by kernel_rfl) (fun _ _ _ h => h) HF.out rfl ?_ rfl rfl ?_ ?_
    rotate_left
    · intro w' hF; have f10 := hF.2.1.cell0; have f11 := hF.2.1.cell1; have f20 := hF.2.2.1.cell0; have f21 := hF.2.2.1.cell1; have f30 := hF.2.2.2.1.cell0; have f31 := hF.2.2.2.1.cell1; have f40 := hF.2.2.2.2.1.cell0; have f41 := hF.2.2.2.2.1.cell1; clear hF; go_simp; try rfl
    rotate_left
    · simp only [Act.put]; exact rfl
    refine Calm.take (i := 9) (v := ?_) (a' := ?_) (l' := #[true, true, true, true, true, true, false, true, true, true, false, false, false, false, false]) (d := some 27) rfl (by kernel_rfl) (by kernel_rfl) (by kernel_rfl) (by kernel_rfl) (fun _ _ _ h => h) HF.out rfl ?_ rfl rfl ?_ ?_
    rotate_left
    · intro w' hF; clear hF; go_simp; try rfl
    rotate_left
    · simp only [Act.put]; exact rfl
    refine Calm.three (i := 6) (j := 11) (m := 12) (l := #[true, true, true, true, true, true, true, true, true, true, false, false, false, false, false]) (l' := #[true, true, true, true, true, true, false, true, true, true, false, true, false, false, false]) (l'' := #[true, true, true, true, true, true, false, true, true, true, false, false, true, false, false]) (by kernel_rfl) rfl rfl rfl rfl rfl rfl rfl rfl rfl (fun K hK => ?_) (fun K hK => ?_) (fun K hK => ?_)
    · go_simp
      refine (rnorm2_any _ _ (D.lim (n1 / n2)) _ HF.out.2.2.2.2.2.1 (D.ok_lim _)).mono ?_
      rintro e u1 ⟨v, rfl, n, hb⟩
      rw [D.val_lim] at n
      obtain ⟨sq, mq, kq, cq, rfl, n⟩ := n.cells
      have HF' := hide (And.intro (HF.out.1.trans ((hb).mono HF.out.1.size)) (And.intro (HF.out.2.1.step (hb)) (And.intro (HF.out.2.2.1.step (hb)) (And.intro (HF.out.2.2.2.1.step (hb)) (And.intro (HF.out.2.2.2.2.1.step (hb)) (And.intro (HF.out.2.2.2.2.2.1.below (hb)) (HF.out.2.2.2.2.2.2.below (hb))))))))
      have TQ := hide (n)
      refine hK _ _ (fun _ => HF'.out) ?_
      clear hK K HF hb n
      have HF := hide HF'.out
      clear HF'
      refine Calm.three (i := 10) (j := 11) (m := 12) (l := #[true, true, true, true, true, true, true, true, true, true, true, false, false, false, false]) (l' := #[true, true, true, true, true, true, true, true, true, true, false, true, false, false, false]) (l'' := #[true, true, true, true, true, true, true, true, true, true, false, false, true, false, false]) (by kernel_rfl) rfl rfl rfl rfl rfl rfl rfl rfl rfl (fun K hK => ?_) (fun K hK => ?_) (fun K hK => ?_)
      · go_simp
        refine (rnorm2_any _ _ (D.lim (n1 % n2)) _ HF.out.2.2.2.2.2.2 (D.ok_lim _)).mono ?_
        rintro e u2 ⟨v, rfl, n, hb⟩
        rw [D.val_lim] at n
        obtain ⟨sr, mr, kr, cr, rfl, n⟩ := n.cells
        replace TQ := hide (TQ.out.below (hb))
        have HF' := hide (And.intro (HF.out.1.trans ((hb).mono HF.out.1.size)) (And.intro (HF.out.2.1.step (hb)) (And.intro (HF.out.2.2.1.step (hb)) (And.intro (HF.out.2.2.2.1.step (hb)) (And.intro (HF.out.2.2.2.2.1.step (hb)) (And.intro (HF.out.2.2.2.2.2.1.below (hb)) (HF.out.2.2.2.2.2.2.below (hb))))))))
        have TR := hide (n)
        refine hK _ _ (fun _ => HF'.out) ?_
        clear hK K HF hb n
        have HF := hide HF'.out
        clear HF'
        refine Calm.two (i := 11) (j := 12) (l := #[true, true, true, true, true, true, true, true, true, true, true, true, false, false, false]) (l' := #[true, true, true, true, true, true, true, true, true, true, true, false, true, false, false]) (by kernel_rfl) rfl rfl rfl rfl rfl rfl (fun K hK => ?_) (fun K hK => ?_)
        · go_simp
          have al := below_alloc u2 (.cells #[.bool false, .slice none 0 0] 30)
          have HF' := hide (And.intro (HF.out.1.trans ((al).mono HF.out.1.size)) (And.intro (HF.out.2.1.step (al)) (And.intro (HF.out.2.2.1.step (al)) (And.intro (HF.out.2.2.2.1.step (al)) (And.intro (HF.out.2.2.2.2.1.step (al)) (And.intro (HF.out.2.2.2.2.2.1.below (al)) (HF.out.2.2.2.2.2.2.below (al))))))))
          have BXq := hide (Box2.new u2 30 (.bool false) (.slice none 0 0))
          replace TQ := hide (TQ.out.below (al))
          replace TR := hide (TR.out.below (al))
          have LT1q := hide (HF.out.2.1.lt)
          have LT2q := hide (HF.out.2.2.1.lt)
          have LT3q := hide (HF.out.2.2.2.1.lt)
          have LT4q := hide (HF.out.2.2.2.2.1.lt)
          have GEq := hide (HF.out.1.size)
          refine hK _ _ (fun _ => HF'.out) ?_
          clear hK K HF al
          have HF := hide HF'.out
          clear HF'
          generalize u2.alloc (.cells #[.bool false, .slice none 0 0] 30) = wzq at *
          generalize u2.heap.size = gq at *
          refine Calm.one (i := 12) (l' := #[true, true, true, true, true, true, true, true, true, true, true, true, true, false, false]) (by kernel_rfl) rfl rfl rfl fun K hK => ?_
          go_simp
          have al := below_alloc wzq (.cells #[.bool false, .slice none 0 0] 30)
          have HF' := hide (And.intro (HF.out.1.trans ((al).mono HF.out.1.size)) (And.intro (HF.out.2.1.step (al)) (And.intro (HF.out.2.2.1.step (al)) (And.intro (HF.out.2.2.2.1.step (al)) (And.intro (HF.out.2.2.2.2.1.step (al)) (And.intro (HF.out.2.2.2.2.2.1.below (al)) (HF.out.2.2.2.2.2.2.below (al))))))))
          have BXr := hide (Box2.new wzq 30 (.bool false) (.slice none 0 0))
          replace TQ := hide (TQ.out.below (al))
          replace TR := hide (TR.out.below (al))
          have LTqr := hide (BXq.out.lt)
          replace BXq := hide (BXq.out.step al)
          have LT1r := hide (HF.out.2.1.lt)
          have LT2r := hide (HF.out.2.2.1.lt)
          have LT3r := hide (HF.out.2.2.2.1.lt)
          have LT4r := hide (HF.out.2.2.2.2.1.lt)
          have GEr := hide (HF.out.1.size)
          refine hK _ _ (fun _ => HF'.out) ?_
          clear hK K HF al
          have HF := hide HF'.out
          clear HF'
          generalize wzq.alloc (.cells #[.bool false, .slice none 0 0] 30) = wzr at *
          generalize wzq.heap.size = gr at *
          refine Calm.one (i := 13) (l' := #[true, true, true, true, true, true, true, true, true, true, true, true, true, true, false]) (by kernel_rfl) rfl rfl rfl fun K hK => ?_
          have LTS := hide (And.intro LT1q.out (And.intro LT2q.out (And.intro LT3q.out (And.intro LT4q.out (And.intro LT1r.out (And.intro LT2r.out (And.intro LT3r.out (And.intro LT4r.out (show gq ≠ gr by first | exact Nat.ne_of_lt LTqr.out | exact Nat.ne_of_gt LTrq.out)))))))))
          have hc0 := BXq.out.cell0
          have hc1 := BXq.out.cell1
          have hf0 := BXq.out.free 0
          have hf1 := BXq.out.free 1
          go_simp
          have HF' := hide (And.intro (below_put HF.out.1 (show w.heap.size ≤ gq by have hx := LTS.out; omega) (.bool sq) (.slice mq kq cq)) (And.intro (HF.out.2.1.other (C := gq) (by have hx := LTS.out; omega) (.bool sq) (.slice mq kq cq)) (And.intro (HF.out.2.2.1.other (C := gq) (by have hx := LTS.out; omega) (.bool sq) (.slice mq kq cq)) (And.intro (HF.out.2.2.2.1.other (C := gq) (by have hx := LTS.out; omega) (.bool sq) (.slice mq kq cq)) (And.intro (HF.out.2.2.2.2.1.other (C := gq) (by have hx := LTS.out; omega) (.bool sq) (.slice mq kq cq)) (And.intro (BXq.out.keeps (by simp) (by simp) (.bool sq) (.slice mq kq cq) _ _ HF.out.2.2.2.2.2.1) (BXq.out.keeps (by simp) (by simp) (.bool sq) (.slice mq kq cq) _ _ HF.out.2.2.2.2.2.2)))))))
          replace TQ := hide (TQ.out.keep (BXq.out.keeps (by simp) (by simp) (.bool sq) (.slice mq kq cq)))
          replace TR := hide (TR.out.keep (BXq.out.keeps (by simp) (by simp) (.bool sq) (.slice mq kq cq)))
          replace BXr := hide (BXr.out.other (C := gq) (by have hx := LTS.out; omega) (.bool sq) (.slice mq kq cq))
          replace BXq := hide (BXq.out.put (.bool sq) (.slice mq kq cq))
          refine hK _ _ (fun _ => HF'.out) ?_
          clear hK K HF hc0 hf0 hc1 hf1
          have HF := hide HF'.out
          clear HF'
          generalize ((wzr.setCell ⟨gq, 0, none⟩ (.bool sq)).setCell ⟨gq, 1, none⟩ (.slice mq kq cq)) = ws1 at *
          refine Calm.one (i := 14) (l' := #[true, true, true, true, true, true, true, true, true, true, true, true, true, true, true]) (by kernel_rfl) rfl rfl rfl fun K hK => ?_
          have hc0 := BXr.out.cell0
          have hc1 := BXr.out.cell1
          have hf0 := BXr.out.free 0
          have hf1 := BXr.out.free 1
          go_simp
          have HF' := hide (And.intro (below_put HF.out.1 (show w.heap.size ≤ gr by have hx := LTS.out; omega) (.bool sr) (.slice mr kr cr)) (And.intro (HF.out.2.1.other (C := gr) (by have hx := LTS.out; omega) (.bool sr) (.slice mr kr cr)) (And.intro (HF.out.2.2.1.other (C := gr) (by have hx := LTS.out; omega) (.bool sr) (.slice mr kr cr)) (And.intro (HF.out.2.2.2.1.other (C := gr) (by have hx := LTS.out; omega) (.bool sr) (.slice mr kr cr)) (And.intro (HF.out.2.2.2.2.1.other (C := gr) (by have hx := LTS.out; omega) (.bool sr) (.slice mr kr cr)) (And.intro (BXr.out.keeps (by simp) (by simp) (.bool sr) (.slice mr kr cr) _ _ HF.out.2.2.2.2.2.1) (BXr.out.keeps (by simp) (by simp) (.bool sr) (.slice mr kr cr) _ _ HF.out.2.2.2.2.2.2)))))))
          replace TQ := hide (TQ.out.keep (BXr.out.keeps (by simp) (by simp) (.bool sr) (.slice mr kr cr)))
          replace TR := hide (TR.out.keep (BXr.out.keeps (by simp) (by simp) (.bool sr) (.slice mr kr cr)))
          replace BXq := hide (BXq.out.other (C := gr) (by have hx := LTS.out; omega) (.bool sr) (.slice mr kr cr))
          replace BXr := hide (BXr.out.put (.bool sr) (.slice mr kr cr))
          refine hK _ _ (fun _ => HF'.out) ?_
          clear hK K HF hc0 hf0 hc1 hf1
          have HF := hide HF'.out
          clear HF'
          generalize ((ws1.setCell ⟨gr, 0, none⟩ (.bool sr)).setCell ⟨gr, 1, none⟩ (.slice mr kr cr)) = ws2 at *
          refine Calm.done (by kernel_rfl) ?_
          go_wp2
          go_meet
          case rel => exact ⟨gq, gr, sq, mq, kq, cq, sr, mr, kr, cr, rfl, rfl, LTS.out, HF.out.1, HF.out.2.1, HF.out.2.2.1, HF.out.2.2.2.1, HF.out.2.2.2.2.1, BXq.out, BXr.out, TQ.out, TR.out⟩
        · go_simp
          have al := below_alloc u2 (.cells #[.bool false, .slice none 0 0] 30)
          have HF' := hide (And.intro (HF.out.1.trans ((al).mono HF.out.1.size)) (And.intro (HF.out.2.1.step (al)) (And.intro (HF.out.2.2.1.step (al)) (And.intro (HF.out.2.2.2.1.step (al)) (And.intro (HF.out.2.2.2.2.1.step (al)) (And.intro (HF.out.2.2.2.2.2.1.below (al)) (HF.out.2.2.2.2.2.2.below (al))))))))
          have BXr := hide (Box2.new u2 30 (.bool false) (.slice none 0 0))
          replace TQ := hide (TQ.out.below (al))
          replace TR := hide (TR.out.below (al))
          have LT1r := hide (HF.out.2.1.lt)
          have LT2r := hide (HF.out.2.2.1.lt)
          have LT3r := hide (HF.out.2.2.2.1.lt)
          have LT4r := hide (HF.out.2.2.2.2.1.lt)
          have GEr := hide (HF.out.1.size)
          refine hK _ _ (fun _ => HF'.out) ?_
          clear hK K HF al
          have HF := hide HF'.out
          clear HF'
          generalize u2.alloc (.cells #[.bool false, .slice none 0 0] 30) = wzr at *
          generalize u2.heap.size = gr at *
          refine Calm.one (i := 11) (l' := #[true, true, true, true, true, true, true, true, true, true, true, true, true, false, false]) (by kernel_rfl) rfl rfl rfl fun K hK => ?_
          go_simp
          have al := below_alloc wzr (.cells #[.bool false, .slice none 0 0] 30)
          have HF' := hide (And.intro (HF.out.1.trans ((al).mono HF.out.1.size)) (And.intro (HF.out.2.1.step (al)) (And.intro (HF.out.2.2.1.step (al)) (And.intro (HF.out.2.2.2.1.step (al)) (And.intro (HF.out.2.2.2.2.1.step (al)) (And.intro (HF.out.2.2.2.2.2.1.below (al)) (HF.out.2.2.2.2.2.2.below (al))))))))
          have BXq := hide (Box2.new wzr 30 (.bool false) (.slice none 0 0))
          replace TQ := hide (TQ.out.below (al))
          replace TR := hide (TR.out.below (al))
          have LTrq := hide (BXr.out.lt)
          replace BXr := hide (BXr.out.step al)
          have LT1q := hide (HF.out.2.1.lt)
          have LT2q := hide (HF.out.2.2.1.lt)
          have LT3q := hide (HF.out.2.2.2.1.lt)
          have LT4q := hide (HF.out.2.2.2.2.1.lt)
          have GEq := hide (HF.out.1.size)
          refine hK _ _ (fun _ => HF'.out) ?_
          clear hK K HF al
          have HF := hide HF'.out
          clear HF'
          generalize wzr.alloc (.cells #[.bool false, .slice none 0 0] 30) = wzq at *
          generalize wzr.heap.size = gq at *
          refine Calm.one (i := 13) (l' := #[true, true, true, true, true, true, true, true, true, true, true, true, true, true, false]) (by kernel_rfl) rfl rfl rfl fun K hK => ?_
          have LTS := hide (And.intro LT1q.out (And.intro LT2q.out (And.intro LT3q.out (And.intro LT4q.out (And.intro LT1r.out (And.intro LT2r.out (And.intro LT3r.out (And.intro LT4r.out (show gq ≠ gr by first | exact Nat.ne_of_lt LTqr.out | exact Nat.ne_of_gt LTrq.out)))))))))
          have hc0 := BXq.out.cell0
          have hc1 := BXq.out.cell1
          have hf0 := BXq.out.free 0
          have hf1 := BXq.out.free 1
          go_simp
          have HF' := hide (And.intro (below_put HF.out.1 (show w.heap.size ≤ gq by have hx := LTS.out; omega) (.bool sq) (.slice mq kq cq)) (And.intro (HF.out.2.1.other (C := gq) (by have hx := LTS.out; omega) (.bool sq) (.slice mq kq cq)) (And.intro (HF.out.2.2.1.other (C := gq) (by have hx := LTS.out; omega) (.bool sq) (.slice mq kq cq)) (And.intro (HF.out.2.2.2.1.other (C := gq) (by have hx := LTS.out; omega) (.bool sq) (.slice mq kq cq)) (And.intro (HF.out.2.2.2.2.1.other (C := gq) (by have hx := LTS.out; omega) (.bool sq) (.slice mq kq cq)) (And.intro (BXq.out.keeps (by simp) (by simp) (.bool sq) (.slice mq kq cq) _ _ HF.out.2.2.2.2.2.1) (BXq.out.keeps (by simp) (by simp) (.bool sq) (.slice mq kq cq) _ _ HF.out.2.2.2.2.2.2)))))))
          replace TQ := hide (TQ.out.keep (BXq.out.keeps (by simp) (by simp) (.bool sq) (.slice mq kq cq)))
          replace TR := hide (TR.out.keep (BXq.out.keeps (by simp) (by simp) (.bool sq) (.slice mq kq cq)))
          replace BXr := hide (BXr.out.other (C := gq) (by have hx := LTS.out; omega) (.bool sq) (.slice mq kq cq))
          replace BXq := hide (BXq.out.put (.bool sq) (.slice mq kq cq))
          refine hK _ _ (fun _ => HF'.out) ?_
          clear hK K HF hc0 hf0 hc1 hf1
          have HF := hide HF'.out
          clear HF'
          generalize ((wzq.setCell ⟨gq, 0, none⟩ (.bool sq)).setCell ⟨gq, 1, none⟩ (.slice mq kq cq)) = ws1 at *
          refine Calm.one (i := 14) (l' := #[true, true, true, true, true, true, true, true, true, true, true, true, true, true, true]) (by kernel_rfl) rfl rfl rfl fun K hK => ?_
          have hc0 := BXr.out.cell0
          have hc1 := BXr.out.cell1
          have hf0 := BXr.out.free 0
          have hf1 := BXr.out.free 1
          go_simp
          have HF' := hide (And.intro (below_put HF.out.1 (show w.heap.size ≤ gr by have hx := LTS.out; omega) (.bool sr) (.slice mr kr cr)) (And.intro (HF.out.2.1.other (C := gr) (by have hx := LTS.out; omega) (.bool sr) (.slice mr kr cr)) (And.intro (HF.out.2.2.1.other (C := gr) (by have hx := LTS.out; omega) (.bool sr) (.slice mr kr cr)) (And.intro (HF.out.2.2.2.1.other (C := gr) (by have hx := LTS.out; omega) (.bool sr) (.slice mr kr cr)) (And.intro (HF.out.2.2.2.2.1.other (C := gr) (by have hx := LTS.out; omega) (.bool sr) (.slice mr kr cr)) (And.intro (BXr.out.keeps (by simp) (by simp) (.bool sr) (.slice mr kr cr) _ _ HF.out.2.2.2.2.2.1) (BXr.out.keeps (by simp) (by simp) (.bool sr) (.slice mr kr cr) _ _ HF.out.2.2.2.2.2.2)))))))
          replace TQ := hide (TQ.out.keep (BXr.out.keeps (by simp) (by simp) (.bool sr) (.slice mr kr cr)))
          replace TR := hide (TR.out.keep (BXr.out.keeps (by simp) (by simp) (.bool sr) (.slice mr kr cr)))
          replace BXq := hide (BXq.out.other (C := gr) (by have hx := LTS.out; omega) (.bool sr) (.slice mr kr cr))
          replace BXr := hide (BXr.out.put (.bool sr) (.slice mr kr cr))
          refine hK _ _ (fun _ => HF'.out) ?_
          clear hK K HF hc0 hf0 hc1 hf1
          have HF := hide HF'.out
          clear HF'
          generalize ((ws1.setCell ⟨gr, 0, none⟩ (.bool sr)).setCell ⟨gr, 1, none⟩ (.slice mr kr cr)) = ws2 at *
          refine Calm.done (by kernel_rfl) ?_
          go_wp2
          go_meet
          case rel => exact ⟨gq, gr, sq, mq, kq, cq, sr, mr, kr, cr, rfl, rfl, LTS.out, HF.out.1, HF.out.2.1, HF.out.2.2.1, HF.out.2.2.2.1, HF.out.2.2.2.2.1, BXq.out, BXr.out, TQ.out, TR.out⟩
      · go_simp
        have al := below_alloc u1 (.cells #[.bool false, .slice none 0 0] 30)
        have HF' := hide (And.intro (HF.out.1.trans ((al).mono HF.out.1.size)) (And.intro (HF.out.2.1.step (al)) (And.intro (HF.out.2.2.1.step (al)) (And.intro (HF.out.2.2.2.1.step (al)) (And.intro (HF.out.2.2.2.2.1.step (al)) (And.intro (HF.out.2.2.2.2.2.1.below (al)) (HF.out.2.2.2.2.2.2.below (al))))))))
        have BXq := hide (Box2.new u1 30 (.bool false) (.slice none 0 0))
        replace TQ := hide (TQ.out.below (al))
        have LT1q := hide (HF.out.2.1.lt)
        have LT2q := hide (HF.out.2.2.1.lt)
        have LT3q := hide (HF.out.2.2.2.1.lt)
        have LT4q := hide (HF.out.2.2.2.2.1.lt)
        have GEq := hide (HF.out.1.size)
        refine hK _ _ (fun _ => HF'.out) ?_
        clear hK K HF al
        have HF := hide HF'.out
        clear HF'
        generalize u1.alloc (.cells #[.bool false, .slice none 0 0] 30) = wzq at *
        generalize u1.heap.size = gq at *
        refine Calm.two (i := 10) (j := 12) (l := #[true, true, true, true, true, true, true, true, true, true, true, true, false, false, false]) (l' := #[true, true, true, true, true, true, true, true, true, true, false, true, true, false, false]) (by kernel_rfl) rfl rfl rfl rfl rfl rfl (fun K hK => ?_) (fun K hK => ?_)
        · go_simp
          refine (rnorm2_any _ _ (D.lim (n1 % n2)) _ HF.out.2.2.2.2.2.2 (D.ok_lim _)).mono ?_
          rintro e u2 ⟨v, rfl, n, hb⟩
          rw [D.val_lim] at n
          obtain ⟨sr, mr, kr, cr, rfl, n⟩ := n.cells
          replace TQ := hide (TQ.out.below (hb))
          replace BXq := hide (BXq.out.step hb)
          have HF' := hide (And.intro (HF.out.1.trans ((hb).mono HF.out.1.size)) (And.intro (HF.out.2.1.step (hb)) (And.intro (HF.out.2.2.1.step (hb)) (And.intro (HF.out.2.2.2.1.step (hb)) (And.intro (HF.out.2.2.2.2.1.step (hb)) (And.intro (HF.out.2.2.2.2.2.1.below (hb)) (HF.out.2.2.2.2.2.2.below (hb))))))))
          have TR := hide (n)
          refine hK _ _ (fun _ => HF'.out) ?_
          clear hK K HF hb n
          have HF := hide HF'.out
          clear HF'
          refine Calm.one (i := 12) (l' := #[true, true, true, true, true, true, true, true, true, true, true, true, true, false, false]) (by kernel_rfl) rfl rfl rfl fun K hK => ?_
          go_simp
          have al := below_alloc u2 (.cells #[.bool false, .slice none 0 0] 30)
          have HF' := hide (And.intro (HF.out.1.trans ((al).mono HF.out.1.size)) (And.intro (HF.out.2.1.step (al)) (And.intro (HF.out.2.2.1.step (al)) (And.intro (HF.out.2.2.2.1.step (al)) (And.intro (HF.out.2.2.2.2.1.step (al)) (And.intro (HF.out.2.2.2.2.2.1.below (al)) (HF.out.2.2.2.2.2.2.below (al))))))))
          have BXr := hide (Box2.new u2 30 (.bool false) (.slice none 0 0))
          replace TQ := hide (TQ.out.below (al))
          replace TR := hide (TR.out.below (al))
          have LTqr := hide (BXq.out.lt)
          replace BXq := hide (BXq.out.step al)
          have LT1r := hide (HF.out.2.1.lt)
          have LT2r := hide (HF.out.2.2.1.lt)
          have LT3r := hide (HF.out.2.2.2.1.lt)
          have LT4r := hide (HF.out.2.2.2.2.1.lt)
          have GEr := hide (HF.out.1.size)
          refine hK _ _ (fun _ => HF'.out) ?_
          clear hK K HF al
          have HF := hide HF'.out
          clear HF'
          generalize u2.alloc (.cells #[.bool false, .slice none 0 0] 30) = wzr at *
          generalize u2.heap.size = gr at *
          refine Calm.one (i := 13) (l' := #[true, true, true, true, true, true, true, true, true, true, true, true, true, true, false]) (by kernel_rfl) rfl rfl rfl fun K hK => ?_
          have LTS := hide (And.intro LT1q.out (And.intro LT2q.out (And.intro LT3q.out (And.intro LT4q.out (And.intro LT1r.out (And.intro LT2r.out (And.intro LT3r.out (And.intro LT4r.out (show gq ≠ gr by first | exact Nat.ne_of_lt LTqr.out | exact Nat.ne_of_gt LTrq.out)))))))))
          have hc0 := BXq.out.cell0
          have hc1 := BXq.out.cell1
          have hf0 := BXq.out.free 0
          have hf1 := BXq.out.free 1
          go_simp
          have HF' := hide (And.intro (below_put HF.out.1 (show w.heap.size ≤ gq by have hx := LTS.out; omega) (.bool sq) (.slice mq kq cq)) (And.intro (HF.out.2.1.other (C := gq) (by have hx := LTS.out; omega) (.bool sq) (.slice mq kq cq)) (And.intro (HF.out.2.2.1.other (C := gq) (by have hx := LTS.out; omega) (.bool sq) (.slice mq kq cq)) (And.intro (HF.out.2.2.2.1.other (C := gq) (by have hx := LTS.out; omega) (.bool sq) (.slice mq kq cq)) (And.intro (HF.out.2.2.2.2.1.other (C := gq) (by have hx := LTS.out; omega) (.bool sq) (.slice mq kq cq)) (And.intro (BXq.out.keeps (by simp) (by simp) (.bool sq) (.slice mq kq cq) _ _ HF.out.2.2.2.2.2.1) (BXq.out.keeps (by simp) (by simp) (.bool sq) (.slice mq kq cq) _ _ HF.out.2.2.2.2.2.2)))))))
          replace TQ := hide (TQ.out.keep (BXq.out.keeps (by simp) (by simp) (.bool sq) (.slice mq kq cq)))
          replace TR := hide (TR.out.keep (BXq.out.keeps (by simp) (by simp) (.bool sq) (.slice mq kq cq)))
          replace BXr := hide (BXr.out.other (C := gq) (by have hx := LTS.out; omega) (.bool sq) (.slice mq kq cq))
          replace BXq := hide (BXq.out.put (.bool sq) (.slice mq kq cq))
          refine hK _ _ (fun _ => HF'.out) ?_
          clear hK K HF hc0 hf0 hc1 hf1
          have HF := hide HF'.out
          clear HF'
          generalize ((wzr.setCell ⟨gq, 0, none⟩ (.bool sq)).setCell ⟨gq, 1, none⟩ (.slice mq kq cq)) = ws1 at *
          refine Calm.one (i := 14) (l' := #[true, true, true, true, true, true, true, true, true, true, true, true, true, true, true]) (by kernel_rfl) rfl rfl rfl fun K hK => ?_
          have hc0 := BXr.out.cell0
          have hc1 := BXr.out.cell1
          have hf0 := BXr.out.free 0
          have hf1 := BXr.out.free 1
          go_simp
          have HF' := hide (And.intro (below_put HF.out.1 (show w.heap.size ≤ gr by have hx := LTS.out; omega) (.bool sr) (.slice mr kr cr)) (And.intro (HF.out.2.1.other (C := gr) (by have hx := LTS.out; omega) (.bool sr) (.slice mr kr cr)) (And.intro (HF.out.2.2.1.other (C := gr) (by have hx := LTS.out; omega) (.bool sr) (.slice mr kr cr)) (And.intro (HF.out.2.2.2.1.other (C := gr) (by have hx := LTS.out; omega) (.bool sr) (.slice mr kr cr)) (And.intro (HF.out.2.2.2.2.1.other (C := gr) (by have hx := LTS.out; omega) (.bool sr) (.slice mr kr cr)) (And.intro (BXr.out.keeps (by simp) (by simp) (.bool sr) (.slice mr kr cr) _ _ HF.out.2.2.2.2.2.1) (BXr.out.keeps (by simp) (by simp) (.bool sr) (.slice mr kr cr) _ _ HF.out.2.2.2.2.2.2)))))))
          replace TQ := hide (TQ.out.keep (BXr.out.keeps (by simp) (by simp) (.bool sr) (.slice mr kr cr)))
          replace TR := hide (TR.out.keep (BXr.out.keeps (by simp) (by simp) (.bool sr) (.slice mr kr cr)))
          replace BXq := hide (BXq.out.other (C := gr) (by have hx := LTS.out; omega) (.bool sr) (.slice mr kr cr))
          replace BXr := hide (BXr.out.put (.bool sr) (.slice mr kr cr))
          refine hK _ _ (fun _ => HF'.out) ?_
          clear hK K HF hc0 hf0 hc1 hf1
          have HF := hide HF'.out
          clear HF'
          generalize ((ws1.setCell ⟨gr, 0, none⟩ (.bool sr)).setCell ⟨gr, 1, none⟩ (.slice mr kr cr)) = ws2 at *
          refine Calm.done (by kernel_rfl) ?_
          go_wp2
          go_meet
          case rel => exact ⟨gq, gr, sq, mq, kq, cq, sr, mr, kr, cr, rfl, rfl, LTS.out, HF.out.1, HF.out.2.1, HF.out.2.2.1, HF.out.2.2.2.1, HF.out.2.2.2.2.1, BXq.out, BXr.out, TQ.out, TR.out⟩
        · go_simp
          have al := below_alloc wzq (.cells #[.bool false, .slice none 0 0] 30)
          have HF' := hide (And.intro (HF.out.1.trans ((al).mono HF.out.1.size)) (And.intro (HF.out.2.1.step (al)) (And.intro (HF.out.2.2.1.step (al)) (And.intro (HF.out.2.2.2.1.step (al)) (And.intro (HF.out.2.2.2.2.1.step (al)) (And.intro (HF.out.2.2.2.2.2.1.below (al)) (HF.out.2.2.2.2.2.2.below (al))))))))
          have BXr := hide (Box2.new wzq 30 (.bool false) (.slice none 0 0))
          replace TQ := hide (TQ.out.below (al))
          have LTqr := hide (BXq.out.lt)
          replace BXq := hide (BXq.out.step al)
          have LT1r := hide (HF.out.2.1.lt)
          have LT2r := hide (HF.out.2.2.1.lt)
          have LT3r := hide (HF.out.2.2.2.1.lt)
          have LT4r := hide (HF.out.2.2.2.2.1.lt)
          have GEr := hide (HF.out.1.size)
          refine hK _ _ (fun _ => HF'.out) ?_
          clear hK K HF al
          have HF := hide HF'.out
          clear HF'
          generalize wzq.alloc (.cells #[.bool false, .slice none 0 0] 30) = wzr at *
          generalize wzq.heap.size = gr at *
          refine Calm.one (i := 10) (l' := #[true, true, true, true, true, true, true, true, true, true, true, true, true, false, false]) (by kernel_rfl) rfl rfl rfl fun K hK => ?_
          go_simp
          refine (rnorm2_any _ _ (D.lim (n1 % n2)) _ HF.out.2.2.2.2.2.2 (D.ok_lim _)).mono ?_
          rintro e u2 ⟨v, rfl, n, hb⟩
          rw [D.val_lim] at n
          obtain ⟨sr, mr, kr, cr, rfl, n⟩ := n.cells
          replace TQ := hide (TQ.out.below (hb))
          replace BXq := hide (BXq.out.step hb)
          replace BXr := hide (BXr.out.step hb)
          have HF' := hide (And.intro (HF.out.1.trans ((hb).mono HF.out.1.size)) (And.intro (HF.out.2.1.step (hb)) (And.intro (HF.out.2.2.1.step (hb)) (And.intro (HF.out.2.2.2.1.step (hb)) (And.intro (HF.out.2.2.2.2.1.step (hb)) (And.intro (HF.out.2.2.2.2.2.1.below (hb)) (HF.out.2.2.2.2.2.2.below (hb))))))))
          have TR := hide (n)
          refine hK _ _ (fun _ => HF'.out) ?_
          clear hK K HF hb n
          have HF := hide HF'.out
          clear HF'
          refine Calm.one (i := 13) (l' := #[true, true, true, true, true, true, true, true, true, true, true, true, true, true, false]) (by kernel_rfl) rfl rfl rfl fun K hK => ?_
          have LTS := hide (And.intro LT1q.out (And.intro LT2q.out (And.intro LT3q.out (And.intro LT4q.out (And.intro LT1r.out (And.intro LT2r.out (And.intro LT3r.out (And.intro LT4r.out (show gq ≠ gr by first | exact Nat.ne_of_lt LTqr.out | exact Nat.ne_of_gt LTrq.out)))))))))
          have hc0 := BXq.out.cell0
          have hc1 := BXq.out.cell1
          have hf0 := BXq.out.free 0
          have hf1 := BXq.out.free 1
          go_simp
          have HF' := hide (And.intro (below_put HF.out.1 (show w.heap.size ≤ gq by have hx := LTS.out; omega) (.bool sq) (.slice mq kq cq)) (And.intro (HF.out.2.1.other (C := gq) (by have hx := LTS.out; omega) (.bool sq) (.slice mq kq cq)) (And.intro (HF.out.2.2.1.other (C := gq) (by have hx := LTS.out; omega) (.bool sq) (.slice mq kq cq)) (And.intro (HF.out.2.2.2.1.other (C := gq) (by have hx := LTS.out; omega) (.bool sq) (.slice mq kq cq)) (And.intro (HF.out.2.2.2.2.1.other (C := gq) (by have hx := LTS.out; omega) (.bool sq) (.slice mq kq cq)) (And.intro (BXq.out.keeps (by simp) (by simp) (.bool sq) (.slice mq kq cq) _ _ HF.out.2.2.2.2.2.1) (BXq.out.keeps (by simp) (by simp) (.bool sq) (.slice mq kq cq) _ _ HF.out.2.2.2.2.2.2)))))))
          replace TQ := hide (TQ.out.keep (BXq.out.keeps (by simp) (by simp) (.bool sq) (.slice mq kq cq)))
          replace TR := hide (TR.out.keep (BXq.out.keeps (by simp) (by simp) (.bool sq) (.slice mq kq cq)))
          replace BXr := hide (BXr.out.other (C := gq) (by have hx := LTS.out; omega) (.bool sq) (.slice mq kq cq))
          replace BXq := hide (BXq.out.put (.bool sq) (.slice mq kq cq))
          refine hK _ _ (fun _ => HF'.out) ?_
          clear hK K HF hc0 hf0 hc1 hf1
          have HF := hide HF'.out
          clear HF'
          generalize ((u2.setCell ⟨gq, 0, none⟩ (.bool sq)).setCell ⟨gq, 1, none⟩ (.slice mq kq cq)) = ws1 at *
          refine Calm.one (i := 14) (l' := #[true, true, true, true, true, true, true, true, true, true, true, true, true, true, true]) (by kernel_rfl) rfl rfl rfl fun K hK => ?_
          have hc0 := BXr.out.cell0
          have hc1 := BXr.out.cell1
          have hf0 := BXr.out.free 0
          have hf1 := BXr.out.free 1
          go_simp
          have HF' := hide (And.intro (below_put HF.out.1 (show w.heap.size ≤ gr by have hx := LTS.out; omega) (.bool sr) (.slice mr kr cr)) (And.intro (HF.out.2.1.other (C := gr) (by have hx := LTS.out; omega) (.bool sr) (.slice mr kr cr)) (And.intro (HF.out.2.2.1.other (C := gr) (by have hx := LTS.out; omega) (.bool sr) (.slice mr kr cr)) (And.intro (HF.out.2.2.2.1.other (C := gr) (by have hx := LTS.out; omega) (.bool sr) (.slice mr kr cr)) (And.intro (HF.out.2.2.2.2.1.other (C := gr) (by have hx := LTS.out; omega) (.bool sr) (.slice mr kr cr)) (And.intro (BXr.out.keeps (by simp) (by simp) (.bool sr) (.slice mr kr cr) _ _ HF.out.2.2.2.2.2.1) (BXr.out.keeps (by simp) (by simp) (.bool sr) (.slice mr kr cr) _ _ HF.out.2.2.2.2.2.2)))))))
          replace TQ := hide (TQ.out.keep (BXr.out.keeps (by simp) (by simp) (.bool sr) (.slice mr kr cr)))
          replace TR := hide (TR.out.keep (BXr.out.keeps (by simp) (by simp) (.bool sr) (.slice mr kr cr)))
          replace BXq := hide (BXq.out.other (C := gr) (by have hx := LTS.out; omega) (.bool sr) (.slice mr kr cr))
          replace BXr := hide (BXr.out.put (.bool sr) (.slice mr kr cr))
          refine hK _ _ (fun _ => HF'.out) ?_
          clear hK K HF hc0 hf0 hc1 hf1
          have HF := hide HF'.out
          clear HF'
          generalize ((ws1.setCell ⟨gr, 0, none⟩ (.bool sr)).setCell ⟨gr, 1, none⟩ (.slice mr kr cr)) = ws2 at *
          refine Calm.done (by kernel_rfl) ?_
          go_wp2
          go_meet
          case rel => exact ⟨gq, gr, sq, mq, kq, cq, sr, mr, kr, cr, rfl, rfl, LTS.out, HF.out.1, HF.out.2.1, HF.out.2.2.1, HF.out.2.2.2.1, HF.out.2.2.2.2.1, BXq.out, BXr.out, TQ.out, TR.out⟩
      · go_simp
        have al := below_alloc u1 (.cells #[.bool false, .slice none 0 0] 30)
        have HF' := hide (And.intro (HF.out.1.trans ((al).mono HF.out.1.size)) (And.intro (HF.out.2.1.step (al)) (And.intro (HF.out.2.2.1.step (al)) (And.intro (HF.out.2.2.2.1.step (al)) (And.intro (HF.out.2.2.2.2.1.step (al)) (And.intro (HF.out.2.2.2.2.2.1.below (al)) (HF.out.2.2.2.2.2.2.below (al))))))))
        have BXr := hide (Box2.new u1 30 (.bool false) (.slice none 0 0))
        replace TQ := hide (TQ.out.below (al))
        have LT1r := hide (HF.out.2.1.lt)
        have LT2r := hide (HF.out.2.2.1.lt)
        have LT3r := hide (HF.out.2.2.2.1.lt)
        have LT4r := hide (HF.out.2.2.2.2.1.lt)
        have GEr := hide (HF.out.1.size)
        refine hK _ _ (fun _ => HF'.out) ?_
        clear hK K HF al
        have HF := hide HF'.out
        clear HF'
        generalize u1.alloc (.cells #[.bool false, .slice none 0 0] 30) = wzr at *
        generalize u1.heap.size = gr at *
        refine Calm.two (i := 10) (j := 11) (l := #[true, true, true, true, true, true, true, true, true, true, true, false, true, false, false]) (l' := #[true, true, true, true, true, true, true, true, true, true, false, true, true, false, false]) (by kernel_rfl) rfl rfl rfl rfl rfl rfl (fun K hK => ?_) (fun K hK => ?_)
        · go_simp
          refine (rnorm2_any _ _ (D.lim (n1 % n2)) _ HF.out.2.2.2.2.2.2 (D.ok_lim _)).mono ?_
          rintro e u2 ⟨v, rfl, n, hb⟩
          rw [D.val_lim] at n
          obtain ⟨sr, mr, kr, cr, rfl, n⟩ := n.cells
          replace TQ := hide (TQ.out.below (hb))
          replace BXr := hide (BXr.out.step hb)
          have HF' := hide (And.intro (HF.out.1.trans ((hb).mono HF.out.1.size)) (And.intro (HF.out.2.1.step (hb)) (And.intro (HF.out.2.2.1.step (hb)) (And.intro (HF.out.2.2.2.1.step (hb)) (And.intro (HF.out.2.2.2.2.1.step (hb)) (And.intro (HF.out.2.2.2.2.2.1.below (hb)) (HF.out.2.2.2.2.2.2.below (hb))))))))
          have TR := hide (n)
          refine hK _ _ (fun _ => HF'.out) ?_
          clear hK K HF hb n
          have HF := hide HF'.out
          clear HF'
          refine Calm.one (i := 11) (l' := #[true, true, true, true, true, true, true, true, true, true, true, true, true, false, false]) (by kernel_rfl) rfl rfl rfl fun K hK => ?_
          go_simp
          have al := below_alloc u2 (.cells #[.bool false, .slice none 0 0] 30)
          have HF' := hide (And.intro (HF.out.1.trans ((al).mono HF.out.1.size)) (And.intro (HF.out.2.1.step (al)) (And.intro (HF.out.2.2.1.step (al)) (And.intro (HF.out.2.2.2.1.step (al)) (And.intro (HF.out.2.2.2.2.1.step (al)) (And.intro (HF.out.2.2.2.2.2.1.below (al)) (HF.out.2.2.2.2.2.2.below (al))))))))
          have BXq := hide (Box2.new u2 30 (.bool false) (.slice none 0 0))
          replace TQ := hide (TQ.out.below (al))
          replace TR := hide (TR.out.below (al))
          have LTrq := hide (BXr.out.lt)
          replace BXr := hide (BXr.out.step al)
          have LT1q := hide (HF.out.2.1.lt)
          have LT2q := hide (HF.out.2.2.1.lt)
          have LT3q := hide (HF.out.2.2.2.1.lt)
          have LT4q := hide (HF.out.2.2.2.2.1.lt)
          have GEq := hide (HF.out.1.size)
          refine hK _ _ (fun _ => HF'.out) ?_
          clear hK K HF al
          have HF := hide HF'.out
          clear HF'
          generalize u2.alloc (.cells #[.bool false, .slice none 0 0] 30) = wzq at *
          generalize u2.heap.size = gq at *
          refine Calm.one (i := 13) (l' := #[true, true, true, true, true, true, true, true, true, true, true, true, true, true, false]) (by kernel_rfl) rfl rfl rfl fun K hK => ?_
          have LTS := hide (And.intro LT1q.out (And.intro LT2q.out (And.intro LT3q.out (And.intro LT4q.out (And.intro LT1r.out (And.intro LT2r.out (And.intro LT3r.out (And.intro LT4r.out (show gq ≠ gr by first | exact Nat.ne_of_lt LTqr.out | exact Nat.ne_of_gt LTrq.out)))))))))
          have hc0 := BXq.out.cell0
          have hc1 := BXq.out.cell1
          have hf0 := BXq.out.free 0
          have hf1 := BXq.out.free 1
          go_simp
          have HF' := hide (And.intro (below_put HF.out.1 (show w.heap.size ≤ gq by have hx := LTS.out; omega) (.bool sq) (.slice mq kq cq)) (And.intro (HF.out.2.1.other (C := gq) (by have hx := LTS.out; omega) (.bool sq) (.slice mq kq cq)) (And.intro (HF.out.2.2.1.other (C := gq) (by have hx := LTS.out; omega) (.bool sq) (.slice mq kq cq)) (And.intro (HF.out.2.2.2.1.other (C := gq) (by have hx := LTS.out; omega) (.bool sq) (.slice mq kq cq)) (And.intro (HF.out.2.2.2.2.1.other (C := gq) (by have hx := LTS.out; omega) (.bool sq) (.slice mq kq cq)) (And.intro (BXq.out.keeps (by simp) (by simp) (.bool sq) (.slice mq kq cq) _ _ HF.out.2.2.2.2.2.1) (BXq.out.keeps (by simp) (by simp) (.bool sq) (.slice mq kq cq) _ _ HF.out.2.2.2.2.2.2)))))))
          replace TQ := hide (TQ.out.keep (BXq.out.keeps (by simp) (by simp) (.bool sq) (.slice mq kq cq)))
          replace TR := hide (TR.out.keep (BXq.out.keeps (by simp) (by simp) (.bool sq) (.slice mq kq cq)))
          replace BXr := hide (BXr.out.other (C := gq) (by have hx := LTS.out; omega) (.bool sq) (.slice mq kq cq))
          replace BXq := hide (BXq.out.put (.bool sq) (.slice mq kq cq))
          refine hK _ _ (fun _ => HF'.out) ?_
          clear hK K HF hc0 hf0 hc1 hf1
          have HF := hide HF'.out
          clear HF'
          generalize ((wzq.setCell ⟨gq, 0, none⟩ (.bool sq)).setCell ⟨gq, 1, none⟩ (.slice mq kq cq)) = ws1 at *
          refine Calm.one (i := 14) (l' := #[true, true, true, true, true, true, true, true, true, true, true, true, true, true, true]) (by kernel_rfl) rfl rfl rfl fun K hK => ?_
          have hc0 := BXr.out.cell0
          have hc1 := BXr.out.cell1
          have hf0 := BXr.out.free 0
          have hf1 := BXr.out.free 1
          go_simp
          have HF' := hide (And.intro (below_put HF.out.1 (show w.heap.size ≤ gr by have hx := LTS.out; omega) (.bool sr) (.slice mr kr cr)) (And.intro (HF.out.2.1.other (C := gr) (by have hx := LTS.out; omega) (.bool sr) (.slice mr kr cr)) (And.intro (HF.out.2.2.1.other (C := gr) (by have hx := LTS.out; omega) (.bool sr) (.slice mr kr cr)) (And.intro (HF.out.2.2.2.1.other (C := gr) (by have hx := LTS.out; omega) (.bool sr) (.slice mr kr cr)) (And.intro (HF.out.2.2.2.2.1.other (C := gr) (by have hx := LTS.out; omega) (.bool sr) (.slice mr kr cr)) (And.intro (BXr.out.keeps (by simp) (by simp) (.bool sr) (.slice mr kr cr) _ _ HF.out.2.2.2.2.2.1) (BXr.out.keeps (by simp) (by simp) (.bool sr) (.slice mr kr cr) _ _ HF.out.2.2.2.2.2.2)))))))
          replace TQ := hide (TQ.out.keep (BXr.out.keeps (by simp) (by simp) (.bool sr) (.slice mr kr cr)))
          replace TR := hide (TR.out.keep (BXr.out.keeps (by simp) (by simp) (.bool sr) (.slice mr kr cr)))
          replace BXq := hide (BXq.out.other (C := gr) (by have hx := LTS.out; omega) (.bool sr) (.slice mr kr cr))
          replace BXr := hide (BXr.out.put (.bool sr) (.slice mr kr cr))
          refine hK _ _ (fun _ => HF'.out) ?_
          clear hK K HF hc0 hf0 hc1 hf1
          have HF := hide HF'.out
          clear HF'
          generalize ((ws1.setCell ⟨gr, 0, none⟩ (.bool sr)).setCell ⟨gr, 1, none⟩ (.slice mr kr cr)) = ws2 at *
          refine Calm.done (by kernel_rfl) ?_
          go_wp2
          go_meet
          case rel => exact ⟨gq, gr, sq, mq, kq, cq, sr, mr, kr, cr, rfl, rfl, LTS.out, HF.out.1, HF.out.2.1, HF.out.2.2.1, HF.out.2.2.2.1, HF.out.2.2.2.2.1, BXq.out, BXr.out, TQ.out, TR.out⟩
        · go_simp
          have al := below_alloc wzr (.cells #[.bool false, .slice none 0 0] 30)
          have HF' := hide (And.intro (HF.out.1.trans ((al).mono HF.out.1.size)) (And.intro (HF.out.2.1.step (al)) (And.intro (HF.out.2.2.1.step (al)) (And.intro (HF.out.2.2.2.1.step (al)) (And.intro (HF.out.2.2.2.2.1.step (al)) (And.intro (HF.out.2.2.2.2.2.1.below (al)) (HF.out.2.2.2.2.2.2.below (al))))))))
          have BXq := hide (Box2.new wzr 30 (.bool false) (.slice none 0 0))
          replace TQ := hide (TQ.out.below (al))
          have LTrq := hide (BXr.out.lt)
          replace BXr := hide (BXr.out.step al)
          have LT1q := hide (HF.out.2.1.lt)
          have LT2q := hide (HF.out.2.2.1.lt)
          have LT3q := hide (HF.out.2.2.2.1.lt)
          have LT4q := hide (HF.out.2.2.2.2.1.lt)
          have GEq := hide (HF.out.1.size)
          refine hK _ _ (fun _ => HF'.out) ?_
          clear hK K HF al
          have HF := hide HF'.out
          clear HF'
          generalize wzr.alloc (.cells #[.bool false, .slice none 0 0] 30) = wzq at *
          generalize wzr.heap.size = gq at *
          refine Calm.one (i := 10) (l' := #[true, true, true, true, true, true, true, true, true, true, true, true, true, false, false]) (by kernel_rfl) rfl rfl rfl fun K hK => ?_
          go_simp
          refine (rnorm2_any _ _ (D.lim (n1 % n2)) _ HF.out.2.2.2.2.2.2 (D.ok_lim _)).mono ?_
          rintro e u2 ⟨v, rfl, n, hb⟩
          rw [D.val_lim] at n
          obtain ⟨sr, mr, kr, cr, rfl, n⟩ := n.cells
          replace TQ := hide (TQ.out.below (hb))
          replace BXr := hide (BXr.out.step hb)
          replace BXq := hide (BXq.out.step hb)
          have HF' := hide (And.intro (HF.out.1.trans ((hb).mono HF.out.1.size)) (And.intro (HF.out.2.1.step (hb)) (And.intro (HF.out.2.2.1.step (hb)) (And.intro (HF.out.2.2.2.1.step (hb)) (And.intro (HF.out.2.2.2.2.1.step (hb)) (And.intro (HF.out.2.2.2.2.2.1.below (hb)) (HF.out.2.2.2.2.2.2.below (hb))))))))
          have TR := hide (n)
          refine hK _ _ (fun _ => HF'.out) ?_
          clear hK K HF hb n
          have HF := hide HF'.out
          clear HF'
          refine Calm.one (i := 13) (l' := #[true, true, true, true, true, true, true, true, true, true, true, true, true, true, false]) (by kernel_rfl) rfl rfl rfl fun K hK => ?_
          have LTS := hide (And.intro LT1q.out (And.intro LT2q.out (And.intro LT3q.out (And.intro LT4q.out (And.intro LT1r.out (And.intro LT2r.out (And.intro LT3r.out (And.intro LT4r.out (show gq ≠ gr by first | exact Nat.ne_of_lt LTqr.out | exact Nat.ne_of_gt LTrq.out)))))))))
          have hc0 := BXq.out.cell0
          have hc1 := BXq.out.cell1
          have hf0 := BXq.out.free 0
          have hf1 := BXq.out.free 1
          go_simp
          have HF' := hide (And.intro (below_put HF.out.1 (show w.heap.size ≤ gq by have hx := LTS.out; omega) (.bool sq) (.slice mq kq cq)) (And.intro (HF.out.2.1.other (C := gq) (by have hx := LTS.out; omega) (.bool sq) (.slice mq kq cq)) (And.intro (HF.out.2.2.1.other (C := gq) (by have hx := LTS.out; omega) (.bool sq) (.slice mq kq cq)) (And.intro (HF.out.2.2.2.1.other (C := gq) (by have hx := LTS.out; omega) (.bool sq) (.slice mq kq cq)) (And.intro (HF.out.2.2.2.2.1.other (C := gq) (by have hx := LTS.out; omega) (.bool sq) (.slice mq kq cq)) (And.intro (BXq.out.keeps (by simp) (by simp) (.bool sq) (.slice mq kq cq) _ _ HF.out.2.2.2.2.2.1) (BXq.out.keeps (by simp) (by simp) (.bool sq) (.slice mq kq cq) _ _ HF.out.2.2.2.2.2.2)))))))
          replace TQ := hide (TQ.out.keep (BXq.out.keeps (by simp) (by simp) (.bool sq) (.slice mq kq cq)))
          replace TR := hide (TR.out.keep (BXq.out.keeps (by simp) (by simp) (.bool sq) (.slice mq kq cq)))
          replace BXr := hide (BXr.out.other (C := gq) (by have hx := LTS.out; omega) (.bool sq) (.slice mq kq cq))
          replace BXq := hide (BXq.out.put (.bool sq) (.slice mq kq cq))
          refine hK _ _ (fun _ => HF'.out) ?_
          clear hK K HF hc0 hf0 hc1 hf1
          have HF := hide HF'.out
          clear HF'
          generalize ((u2.setCell ⟨gq, 0, none⟩ (.bool sq)).setCell ⟨gq, 1, none⟩ (.slice mq kq cq)) = ws1 at *
          refine Calm.one (i := 14) (l' := #[true, true, true, true, true, true, true, true, true, true, true, true, true, true, true]) (by kernel_rfl) rfl rfl rfl fun K hK => ?_
          have hc0 := BXr.out.cell0
          have hc1 := BXr.out.cell1
          have hf0 := BXr.out.free 0
          have hf1 := BXr.out.free 1
          go_simp
          have HF' := hide (And.intro (below_put HF.out.1 (show w.heap.size ≤ gr by have hx := LTS.out; omega) (.bool sr) (.slice mr kr cr)) (And.intro (HF.out.2.1.other (C := gr) (by have hx := LTS.out; omega) (.bool sr) (.slice mr kr cr)) (And.intro (HF.out.2.2.1.other (C := gr) (by have hx := LTS.out; omega) (.bool sr) (.slice mr kr cr)) (And.intro (HF.out.2.2.2.1.other (C := gr) (by have hx := LTS.out; omega) (.bool sr) (.slice mr kr cr)) (And.intro (HF.out.2.2.2.2.1.other (C := gr) (by have hx := LTS.out; omega) (.bool sr) (.slice mr kr cr)) (And.intro (BXr.out.keeps (by simp) (by simp) (.bool sr) (.slice mr kr cr) _ _ HF.out.2.2.2.2.2.1) (BXr.out.keeps (by simp) (by simp) (.bool sr) (.slice mr kr cr) _ _ HF.out.2.2.2.2.2.2)))))))
          replace TQ := hide (TQ.out.keep (BXr.out.keeps (by simp) (by simp) (.bool sr) (.slice mr kr cr)))
          replace TR := hide (TR.out.keep (BXr.out.keeps (by simp) (by simp) (.bool sr) (.slice mr kr cr)))
          replace BXq := hide (BXq.out.other (C := gr) (by have hx := LTS.out; omega) (.bool sr) (.slice mr kr cr))
          replace BXr := hide (BXr.out.put (.bool sr) (.slice mr kr cr))
          refine hK _ _ (fun _ => HF'.out) ?_
          clear hK K HF hc0 hf0 hc1 hf1
          have HF := hide HF'.out
          clear HF'
          generalize ((ws1.setCell ⟨gr, 0, none⟩ (.bool sr)).setCell ⟨gr, 1, none⟩ (.slice mr kr cr)) = ws2 at *
          refine Calm.done (by kernel_rfl) ?_
          go_wp2
          go_meet
          case rel => exact ⟨gq, gr, sq, mq, kq, cq, sr, mr, kr, cr, rfl, rfl, LTS.out, HF.out.1, HF.out.2.1, HF.out.2.2.1, HF.out.2.2.2.1, HF.out.2.2.2.2.1, BXq.out, BXr.out, TQ.out, TR.out⟩
    · go_simp
      have al := below_alloc w1d (.cells #[.bool false, .slice none 0 0] 30)
      have HF' := hide (And.intro (HF.out.1.trans ((al).mono HF.out.1.size)) (And.intro (HF.out.2.1.step (al)) (And.intro (HF.out.2.2.1.step (al)) (And.intro (HF.out.2.2.2.1.step (al)) (And.intro (HF.out.2.2.2.2.1.step (al)) (And.intro (HF.out.2.2.2.2.2.1.below (al)) (HF.out.2.2.2.2.2.2.below (al))))))))
      have BXq := hide (Box2.new w1d 30 (.bool false) (.slice none 0 0))
      have LT1q := hide (HF.out.2.1.lt)
      have LT2q := hide (HF.out.2.2.1.lt)
      have LT3q := hide (HF.out.2.2.2.1.lt)
      have LT4q := hide (HF.out.2.2.2.2.1.lt)
      have GEq := hide (HF.out.1.size)
      refine hK _ _ (fun _ => HF'.out) ?_
      clear hK K HF al
      have HF := hide HF'.out
      clear HF'
      generalize w1d.alloc (.cells #[.bool false, .slice none 0 0] 30) = wzq at *
      generalize w1d.heap.size = gq at *
      refine Calm.two (i := 6) (j := 12) (l := #[true, true, true, true, true, true, true, true, true, true, false, true, false, false, false]) (l' := #[true, true, true, true, true, true, false, true, true, true, false, true, true, false, false]) (by kernel_rfl) rfl rfl rfl rfl rfl rfl (fun K hK => ?_) (fun K hK => ?_)
      · go_simp
        refine (rnorm2_any _ _ (D.lim (n1 / n2)) _ HF.out.2.2.2.2.2.1 (D.ok_lim _)).mono ?_
        rintro e u1 ⟨v, rfl, n, hb⟩
        rw [D.val_lim] at n
        obtain ⟨sq, mq, kq, cq, rfl, n⟩ := n.cells
        replace BXq := hide (BXq.out.step hb)
        have HF' := hide (And.intro (HF.out.1.trans ((hb).mono HF.out.1.size)) (And.intro (HF.out.2.1.step (hb)) (And.intro (HF.out.2.2.1.step (hb)) (And.intro (HF.out.2.2.2.1.step (hb)) (And.intro (HF.out.2.2.2.2.1.step (hb)) (And.intro (HF.out.2.2.2.2.2.1.below (hb)) (HF.out.2.2.2.2.2.2.below (hb))))))))
        have TQ := hide (n)
        refine hK _ _ (fun _ => HF'.out) ?_
        clear hK K HF hb n
        have HF := hide HF'.out
        clear HF'
        refine Calm.two (i := 10) (j := 12) (l := #[true, true, true, true, true, true, true, true, true, true, true, true, false, false, false]) (l' := #[true, true, true, true, true, true, true, true, true, true, false, true, true, false, false]) (by kernel_rfl) rfl rfl rfl rfl rfl rfl (fun K hK => ?_) (fun K hK => ?_)
        · go_simp
          refine (rnorm2_any _ _ (D.lim (n1 % n2)) _ HF.out.2.2.2.2.2.2 (D.ok_lim _)).mono ?_
          rintro e u2 ⟨v, rfl, n, hb⟩
          rw [D.val_lim] at n
          obtain ⟨sr, mr, kr, cr, rfl, n⟩ := n.cells
          replace TQ := hide (TQ.out.below (hb))
          replace BXq := hide (BXq.out.step hb)
          have HF' := hide (And.intro (HF.out.1.trans ((hb).mono HF.out.1.size)) (And.intro (HF.out.2.1.step (hb)) (And.intro (HF.out.2.2.1.step (hb)) (And.intro (HF.out.2.2.2.1.step (hb)) (And.intro (HF.out.2.2.2.2.1.step (hb)) (And.intro (HF.out.2.2.2.2.2.1.below (hb)) (HF.out.2.2.2.2.2.2.below (hb))))))))
          have TR := hide (n)
          refine hK _ _ (fun _ => HF'.out) ?_
          clear hK K HF hb n
          have HF := hide HF'.out
          clear HF'
          refine Calm.one (i := 12) (l' := #[true, true, true, true, true, true, true, true, true, true, true, true, true, false, false]) (by kernel_rfl) rfl rfl rfl fun K hK => ?_
          go_simp
          have al := below_alloc u2 (.cells #[.bool false, .slice none 0 0] 30)
          have HF' := hide (And.intro (HF.out.1.trans ((al).mono HF.out.1.size)) (And.intro (HF.out.2.1.step (al)) (And.intro (HF.out.2.2.1.step (al)) (And.intro (HF.out.2.2.2.1.step (al)) (And.intro (HF.out.2.2.2.2.1.step (al)) (And.intro (HF.out.2.2.2.2.2.1.below (al)) (HF.out.2.2.2.2.2.2.below (al))))))))
          have BXr := hide (Box2.new u2 30 (.bool false) (.slice none 0 0))
          replace TQ := hide (TQ.out.below (al))
          replace TR := hide (TR.out.below (al))
          have LTqr := hide (BXq.out.lt)
          replace BXq := hide (BXq.out.step al)
          have LT1r := hide (HF.out.2.1.lt)
          have LT2r := hide (HF.out.2.2.1.lt)
          have LT3r := hide (HF.out.2.2.2.1.lt)
          have LT4r := hide (HF.out.2.2.2.2.1.lt)
          have GEr := hide (HF.out.1.size)
          refine hK _ _ (fun _ => HF'.out) ?_
          clear hK K HF al
          have HF := hide HF'.out
          clear HF'
          generalize u2.alloc (.cells #[.bool false, .slice none 0 0] 30) = wzr at *
          generalize u2.heap.size = gr at *
          refine Calm.one (i := 13) (l' := #[true, true, true, true, true, true, true, true, true, true, true, true, true, true, false]) (by kernel_rfl) rfl rfl rfl fun K hK => ?_
          have LTS := hide (And.intro LT1q.out (And.intro LT2q.out (And.intro LT3q.out (And.intro LT4q.out (And.intro LT1r.out (And.intro LT2r.out (And.intro LT3r.out (And.intro LT4r.out (show gq ≠ gr by first | exact Nat.ne_of_lt LTqr.out | exact Nat.ne_of_gt LTrq.out)))))))))
          have hc0 := BXq.out.cell0
          have hc1 := BXq.out.cell1
          have hf0 := BXq.out.free 0
          have hf1 := BXq.out.free 1
          go_simp
          have HF' := hide (And.intro (below_put HF.out.1 (show w.heap.size ≤ gq by have hx := LTS.out; omega) (.bool sq) (.slice mq kq cq)) (And.intro (HF.out.2.1.other (C := gq) (by have hx := LTS.out; omega) (.bool sq) (.slice mq kq cq)) (And.intro (HF.out.2.2.1.other (C := gq) (by have hx := LTS.out; omega) (.bool sq) (.slice mq kq cq)) (And.intro (HF.out.2.2.2.1.other (C := gq) (by have hx := LTS.out; omega) (.bool sq) (.slice mq kq cq)) (And.intro (HF.out.2.2.2.2.1.other (C := gq) (by have hx := LTS.out; omega) (.bool sq) (.slice mq kq cq)) (And.intro (BXq.out.keeps (by simp) (by simp) (.bool sq) (.slice mq kq cq) _ _ HF.out.2.2.2.2.2.1) (BXq.out.keeps (by simp) (by simp) (.bool sq) (.slice mq kq cq) _ _ HF.out.2.2.2.2.2.2)))))))
          replace TQ := hide (TQ.out.keep (BXq.out.keeps (by simp) (by simp) (.bool sq) (.slice mq kq cq)))
          replace TR := hide (TR.out.keep (BXq.out.keeps (by simp) (by simp) (.bool sq) (.slice mq kq cq)))
          replace BXr := hide (BXr.out.other (C := gq) (by have hx := LTS.out; omega) (.bool sq) (.slice mq kq cq))
          replace BXq := hide (BXq.out.put (.bool sq) (.slice mq kq cq))
          refine hK _ _ (fun _ => HF'.out) ?_
          clear hK K HF hc0 hf0 hc1 hf1
          have HF := hide HF'.out
          clear HF'
          generalize ((wzr.setCell ⟨gq, 0, none⟩ (.bool sq)).setCell ⟨gq, 1, none⟩ (.slice mq kq cq)) = ws1 at *
          refine Calm.one (i := 14) (l' := #[true, true, true, true, true, true, true, true, true, true, true, true, true, true, true]) (by kernel_rfl) rfl rfl rfl fun K hK => ?_
          have hc0 := BXr.out.cell0
          have hc1 := BXr.out.cell1
          have hf0 := BXr.out.free 0
          have hf1 := BXr.out.free 1
          go_simp
          have HF' := hide (And.intro (below_put HF.out.1 (show w.heap.size ≤ gr by have hx := LTS.out; omega) (.bool sr) (.slice mr kr cr)) (And.intro (HF.out.2.1.other (C := gr) (by have hx := LTS.out; omega) (.bool sr) (.slice mr kr cr)) (And.intro (HF.out.2.2.1.other (C := gr) (by have hx := LTS.out; omega) (.bool sr) (.slice mr kr cr)) (And.intro (HF.out.2.2.2.1.other (C := gr) (by have hx := LTS.out; omega) (.bool sr) (.slice mr kr cr)) (And.intro (HF.out.2.2.2.2.1.other (C := gr) (by have hx := LTS.out; omega) (.bool sr) (.slice mr kr cr)) (And.intro (BXr.out.keeps (by simp) (by simp) (.bool sr) (.slice mr kr cr) _ _ HF.out.2.2.2.2.2.1) (BXr.out.keeps (by simp) (by simp) (.bool sr) (.slice mr kr cr) _ _ HF.out.2.2.2.2.2.2)))))))
          replace TQ := hide (TQ.out.keep (BXr.out.keeps (by simp) (by simp) (.bool sr) (.slice mr kr cr)))
          replace TR := hide (TR.out.keep (BXr.out.keeps (by simp) (by simp) (.bool sr) (.slice mr kr cr)))
          replace BXq := hide (BXq.out.other (C := gr) (by have hx := LTS.out; omega) (.bool sr) (.slice mr kr cr))
          replace BXr := hide (BXr.out.put (.bool sr) (.slice mr kr cr))
          refine hK _ _ (fun _ => HF'.out) ?_
          clear hK K HF hc0 hf0 hc1 hf1
          have HF := hide HF'.out
          clear HF'
          generalize ((ws1.setCell ⟨gr, 0, none⟩ (.bool sr)).setCell ⟨gr, 1, none⟩ (.slice mr kr cr)) = ws2 at *
          refine Calm.done (by kernel_rfl) ?_
          go_wp2
          go_meet
          case rel => exact ⟨gq, gr, sq, mq, kq, cq, sr, mr, kr, cr, rfl, rfl, LTS.out, HF.out.1, HF.out.2.1, HF.out.2.2.1, HF.out.2.2.2.1, HF.out.2.2.2.2.1, BXq.out, BXr.out, TQ.out, TR.out⟩
        · go_simp
          have al := below_alloc u1 (.cells #[.bool false, .slice none 0 0] 30)
          have HF' := hide (And.intro (HF.out.1.trans ((al).mono HF.out.1.size)) (And.intro (HF.out.2.1.step (al)) (And.intro (HF.out.2.2.1.step (al)) (And.intro (HF.out.2.2.2.1.step (al)) (And.intro (HF.out.2.2.2.2.1.step (al)) (And.intro (HF.out.2.2.2.2.2.1.below (al)) (HF.out.2.2.2.2.2.2.below (al))))))))
          have BXr := hide (Box2.new u1 30 (.bool false) (.slice none 0 0))
          replace TQ := hide (TQ.out.below (al))
          have LTqr := hide (BXq.out.lt)
          replace BXq := hide (BXq.out.step al)
          have LT1r := hide (HF.out.2.1.lt)
          have LT2r := hide (HF.out.2.2.1.lt)
          have LT3r := hide (HF.out.2.2.2.1.lt)
          have LT4r := hide (HF.out.2.2.2.2.1.lt)
          have GEr := hide (HF.out.1.size)
          refine hK _ _ (fun _ => HF'.out) ?_
          clear hK K HF al
          have HF := hide HF'.out
          clear HF'
          generalize u1.alloc (.cells #[.bool false, .slice none 0 0] 30) = wzr at *
          generalize u1.heap.size = gr at *
          refine Calm.one (i := 10) (l' := #[true, true, true, true, true, true, true, true, true, true, true, true, true, false, false]) (by kernel_rfl) rfl rfl rfl fun K hK => ?_
          go_simp
          refine (rnorm2_any _ _ (D.lim (n1 % n2)) _ HF.out.2.2.2.2.2.2 (D.ok_lim _)).mono ?_
          rintro e u2 ⟨v, rfl, n, hb⟩
          rw [D.val_lim] at n
          obtain ⟨sr, mr, kr, cr, rfl, n⟩ := n.cells
          replace TQ := hide (TQ.out.below (hb))
          replace BXq := hide (BXq.out.step hb)
          replace BXr := hide (BXr.out.step hb)
          have HF' := hide (And.intro (HF.out.1.trans ((hb).mono HF.out.1.size)) (And.intro (HF.out.2.1.step (hb)) (And.intro (HF.out.2.2.1.step (hb)) (And.intro (HF.out.2.2.2.1.step (hb)) (And.intro (HF.out.2.2.2.2.1.step (hb)) (And.intro (HF.out.2.2.2.2.2.1.below (hb)) (HF.out.2.2.2.2.2.2.below (hb))))))))
          have TR := hide (n)
          refine hK _ _ (fun _ => HF'.out) ?_
          clear hK K HF hb n
          have HF := hide HF'.out
          clear HF'
          refine Calm.one (i := 13) (l' := #[true, true, true, true, true, true, true, true, true, true, true, true, true, true, false]) (by kernel_rfl) rfl rfl rfl fun K hK => ?_
          have LTS := hide (And.intro LT1q.out (And.intro LT2q.out (And.intro LT3q.out (And.intro LT4q.out (And.intro LT1r.out (And.intro LT2r.out (And.intro LT3r.out (And.intro LT4r.out (show gq ≠ gr by first | exact Nat.ne_of_lt LTqr.out | exact Nat.ne_of_gt LTrq.out)))))))))
          have hc0 := BXq.out.cell0
          have hc1 := BXq.out.cell1
          have hf0 := BXq.out.free 0
          have hf1 := BXq.out.free 1
          go_simp
          have HF' := hide (And.intro (below_put HF.out.1 (show w.heap.size ≤ gq by have hx := LTS.out; omega) (.bool sq) (.slice mq kq cq)) (And.intro (HF.out.2.1.other (C := gq) (by have hx := LTS.out; omega) (.bool sq) (.slice mq kq cq)) (And.intro (HF.out.2.2.1.other (C := gq) (by have hx := LTS.out; omega) (.bool sq) (.slice mq kq cq)) (And.intro (HF.out.2.2.2.1.other (C := gq) (by have hx := LTS.out; omega) (.bool sq) (.slice mq kq cq)) (And.intro (HF.out.2.2.2.2.1.other (C := gq) (by have hx := LTS.out; omega) (.bool sq) (.slice mq kq cq)) (And.intro (BXq.out.keeps (by simp) (by simp) (.bool sq) (.slice mq kq cq) _ _ HF.out.2.2.2.2.2.1) (BXq.out.keeps (by simp) (by simp) (.bool sq) (.slice mq kq cq) _ _ HF.out.2.2.2.2.2.2)))))))
          replace TQ := hide (TQ.out.keep (BXq.out.keeps (by simp) (by simp) (.bool sq) (.slice mq kq cq)))
          replace TR := hide (TR.out.keep (BXq.out.keeps (by simp) (by simp) (.bool sq) (.slice mq kq cq)))
          replace BXr := hide (BXr.out.other (C := gq) (by have hx := LTS.out; omega) (.bool sq) (.slice mq kq cq))
          replace BXq := hide (BXq.out.put (.bool sq) (.slice mq kq cq))
          refine hK _ _ (fun _ => HF'.out) ?_
          clear hK K HF hc0 hf0 hc1 hf1
          have HF := hide HF'.out
          clear HF'
          generalize ((u2.setCell ⟨gq, 0, none⟩ (.bool sq)).setCell ⟨gq, 1, none⟩ (.slice mq kq cq)) = ws1 at *
          refine Calm.one (i := 14) (l' := #[true, true, true, true, true, true, true, true, true, true, true, true, true, true, true]) (by kernel_rfl) rfl rfl rfl fun K hK => ?_
          have hc0 := BXr.out.cell0
          have hc1 := BXr.out.cell1
          have hf0 := BXr.out.free 0
          have hf1 := BXr.out.free 1
          go_simp
          have HF' := hide (And.intro (below_put HF.out.1 (show w.heap.size ≤ gr by have hx := LTS.out; omega) (.bool sr) (.slice mr kr cr)) (And.intro (HF.out.2.1.other (C := gr) (by have hx := LTS.out; omega) (.bool sr) (.slice mr kr cr)) (And.intro (HF.out.2.2.1.other (C := gr) (by have hx := LTS.out; omega) (.bool sr) (.slice mr kr cr)) (And.intro (HF.out.2.2.2.1.other (C := gr) (by have hx := LTS.out; omega) (.bool sr) (.slice mr kr cr)) (And.intro (HF.out.2.2.2.2.1.other (C := gr) (by have hx := LTS.out; omega) (.bool sr) (.slice mr kr cr)) (And.intro (BXr.out.keeps (by simp) (by simp) (.bool sr) (.slice mr kr cr) _ _ HF.out.2.2.2.2.2.1) (BXr.out.keeps (by simp) (by simp) (.bool sr) (.slice mr kr cr) _ _ HF.out.2.2.2.2.2.2)))))))
          replace TQ := hide (TQ.out.keep (BXr.out.keeps (by simp) (by simp) (.bool sr) (.slice mr kr cr)))
          replace TR := hide (TR.out.keep (BXr.out.keeps (by simp) (by simp) (.bool sr) (.slice mr kr cr)))
          replace BXq := hide (BXq.out.other (C := gr) (by have hx := LTS.out; omega) (.bool sr) (.slice mr kr cr))
          replace BXr := hide (BXr.out.put (.bool sr) (.slice mr kr cr))
          refine hK _ _ (fun _ => HF'.out) ?_
          clear hK K HF hc0 hf0 hc1 hf1
          have HF := hide HF'.out
          clear HF'
          generalize ((ws1.setCell ⟨gr, 0, none⟩ (.bool sr)).setCell ⟨gr, 1, none⟩ (.slice mr kr cr)) = ws2 at *
          refine Calm.done (by kernel_rfl) ?_
          go_wp2
          go_meet
          case rel => exact ⟨gq, gr, sq, mq, kq, cq, sr, mr, kr, cr, rfl, rfl, LTS.out, HF.out.1, HF.out.2.1, HF.out.2.2.1, HF.out.2.2.2.1, HF.out.2.2.2.2.1, BXq.out, BXr.out, TQ.out, TR.out⟩
      · go_simp
        have al := below_alloc wzq (.cells #[.bool false, .slice none 0 0] 30)
        have HF' := hide (And.intro (HF.out.1.trans ((al).mono HF.out.1.size)) (And.intro (HF.out.2.1.step (al)) (And.intro (HF.out.2.2.1.step (al)) (And.intro (HF.out.2.2.2.1.step (al)) (And.intro (HF.out.2.2.2.2.1.step (al)) (And.intro (HF.out.2.2.2.2.2.1.below (al)) (HF.out.2.2.2.2.2.2.below (al))))))))
        have BXr := hide (Box2.new wzq 30 (.bool false) (.slice none 0 0))
        have LTqr := hide (BXq.out.lt)
        replace BXq := hide (BXq.out.step al)
        have LT1r := hide (HF.out.2.1.lt)
        have LT2r := hide (HF.out.2.2.1.lt)
        have LT3r := hide (HF.out.2.2.2.1.lt)
        have LT4r := hide (HF.out.2.2.2.2.1.lt)
        have GEr := hide (HF.out.1.size)
        refine hK _ _ (fun _ => HF'.out) ?_
        clear hK K HF al
        have HF := hide HF'.out
        clear HF'
        generalize wzq.alloc (.cells #[.bool false, .slice none 0 0] 30) = wzr at *
        generalize wzq.heap.size = gr at *
        refine Calm.one (i := 6) (l' := #[true, true, true, true, true, true, true, true, true, true, false, true, true, false, false]) (by kernel_rfl) rfl rfl rfl fun K hK => ?_
        go_simp
        refine (rnorm2_any _ _ (D.lim (n1 / n2)) _ HF.out.2.2.2.2.2.1 (D.ok_lim _)).mono ?_
        rintro e u1 ⟨v, rfl, n, hb⟩
        rw [D.val_lim] at n
        obtain ⟨sq, mq, kq, cq, rfl, n⟩ := n.cells
        replace BXq := hide (BXq.out.step hb)
        replace BXr := hide (BXr.out.step hb)
        have HF' := hide (And.intro (HF.out.1.trans ((hb).mono HF.out.1.size)) (And.intro (HF.out.2.1.step (hb)) (And.intro (HF.out.2.2.1.step (hb)) (And.intro (HF.out.2.2.2.1.step (hb)) (And.intro (HF.out.2.2.2.2.1.step (hb)) (And.intro (HF.out.2.2.2.2.2.1.below (hb)) (HF.out.2.2.2.2.2.2.below (hb))))))))
        have TQ := hide (n)
        refine hK _ _ (fun _ => HF'.out) ?_
        clear hK K HF hb n
        have HF := hide HF'.out
        clear HF'
        refine Calm.one (i := 10) (l' := #[true, true, true, true, true, true, true, true, true, true, true, true, true, false, false]) (by kernel_rfl) rfl rfl rfl fun K hK => ?_
        go_simp
        refine (rnorm2_any _ _ (D.lim (n1 % n2)) _ HF.out.2.2.2.2.2.2 (D.ok_lim _)).mono ?_
        rintro e u2 ⟨v, rfl, n, hb⟩
        rw [D.val_lim] at n
        obtain ⟨sr, mr, kr, cr, rfl, n⟩ := n.cells
        replace TQ := hide (TQ.out.below (hb))
        replace BXq := hide (BXq.out.step hb)
        replace BXr := hide (BXr.out.step hb)
        have HF' := hide (And.intro (HF.out.1.trans ((hb).mono HF.out.1.size)) (And.intro (HF.out.2.1.step (hb)) (And.intro (HF.out.2.2.1.step (hb)) (And.intro (HF.out.2.2.2.1.step (hb)) (And.intro (HF.out.2.2.2.2.1.step (hb)) (And.intro (HF.out.2.2.2.2.2.1.below (hb)) (HF.out.2.2.2.2.2.2.below (hb))))))))
        have TR := hide (n)
        refine hK _ _ (fun _ => HF'.out) ?_
        clear hK K HF hb n
        have HF := hide HF'.out
        clear HF'
        refine Calm.one (i := 13) (l' := #[true, true, true, true, true, true, true, true, true, true, true, true, true, true, false]) (by kernel_rfl) rfl rfl rfl fun K hK => ?_
        have LTS := hide (And.intro LT1q.out (And.intro LT2q.out (And.intro LT3q.out (And.intro LT4q.out (And.intro LT1r.out (And.intro LT2r.out (And.intro LT3r.out (And.intro LT4r.out (show gq ≠ gr by first | exact Nat.ne_of_lt LTqr.out | exact Nat.ne_of_gt LTrq.out)))))))))
        have hc0 := BXq.out.cell0
        have hc1 := BXq.out.cell1
        have hf0 := BXq.out.free 0
        have hf1 := BXq.out.free 1
        go_simp
        have HF' := hide (And.intro (below_put HF.out.1 (show w.heap.size ≤ gq by have hx := LTS.out; omega) (.bool sq) (.slice mq kq cq)) (And.intro (HF.out.2.1.other (C := gq) (by have hx := LTS.out; omega) (.bool sq) (.slice mq kq cq)) (And.intro (HF.out.2.2.1.other (C := gq) (by have hx := LTS.out; omega) (.bool sq) (.slice mq kq cq)) (And.intro (HF.out.2.2.2.1.other (C := gq) (by have hx := LTS.out; omega) (.bool sq) (.slice mq kq cq)) (And.intro (HF.out.2.2.2.2.1.other (C := gq) (by have hx := LTS.out; omega) (.bool sq) (.slice mq kq cq)) (And.intro (BXq.out.keeps (by simp) (by simp) (.bool sq) (.slice mq kq cq) _ _ HF.out.2.2.2.2.2.1) (BXq.out.keeps (by simp) (by simp) (.bool sq) (.slice mq kq cq) _ _ HF.out.2.2.2.2.2.2)))))))
        replace TQ := hide (TQ.out.keep (BXq.out.keeps (by simp) (by simp) (.bool sq) (.slice mq kq cq)))
        replace TR := hide (TR.out.keep (BXq.out.keeps (by simp) (by simp) (.bool sq) (.slice mq kq cq)))
        replace BXr := hide (BXr.out.other (C := gq) (by have hx := LTS.out; omega) (.bool sq) (.slice mq kq cq))
        replace BXq := hide (BXq.out.put (.bool sq) (.slice mq kq cq))
        refine hK _ _ (fun _ => HF'.out) ?_
        clear hK K HF hc0 hf0 hc1 hf1
        have HF := hide HF'.out
        clear HF'
        generalize ((u2.setCell ⟨gq, 0, none⟩ (.bool sq)).setCell ⟨gq, 1, none⟩ (.slice mq kq cq)) = ws1 at *
        refine Calm.one (i := 14) (l' := #[true, true, true, true, true, true, true, true, true, true, true, true, true, true, true]) (by kernel_rfl) rfl rfl rfl fun K hK => ?_
        have hc0 := BXr.out.cell0
        have hc1 := BXr.out.cell1
        have hf0 := BXr.out.free 0
        have hf1 := BXr.out.free 1
        go_simp
        have HF' := hide (And.intro (below_put HF.out.1 (show w.heap.size ≤ gr by have hx := LTS.out; omega) (.bool sr) (.slice mr kr cr)) (And.intro (HF.out.2.1.other (C := gr) (by have hx := LTS.out; omega) (.bool sr) (.slice mr kr cr)) (And.intro (HF.out.2.2.1.other (C := gr) (by have hx := LTS.out; omega) (.bool sr) (.slice mr kr cr)) (And.intro (HF.out.2.2.2.1.other (C := gr) (by have hx := LTS.out; omega) (.bool sr) (.slice mr kr cr)) (And.intro (HF.out.2.2.2.2.1.other (C := gr) (by have hx := LTS.out; omega) (.bool sr) (.slice mr kr cr)) (And.intro (BXr.out.keeps (by simp) (by simp) (.bool sr) (.slice mr kr cr) _ _ HF.out.2.2.2.2.2.1) (BXr.out.keeps (by simp) (by simp) (.bool sr) (.slice mr kr cr) _ _ HF.out.2.2.2.2.2.2)))))))
        replace TQ := hide (TQ.out.keep (BXr.out.keeps (by simp) (by simp) (.bool sr) (.slice mr kr cr)))
        replace TR := hide (TR.out.keep (BXr.out.keeps (by simp) (by simp) (.bool sr) (.slice mr kr cr)))
        replace BXq := hide (BXq.out.other (C := gr) (by have hx := LTS.out; omega) (.bool sr) (.slice mr kr cr))
        replace BXr := hide (BXr.out.put (.bool sr) (.slice mr kr cr))
        refine hK _ _ (fun _ => HF'.out) ?_
        clear hK K HF hc0 hf0 hc1 hf1
        have HF := hide HF'.out
        clear HF'
        generalize ((ws1.setCell ⟨gr, 0, none⟩ (.bool sr)).setCell ⟨gr, 1, none⟩ (.slice mr kr cr)) = ws2 at *
        refine Calm.done (by kernel_rfl) ?_
        go_wp2
        go_meet
        case rel => exact ⟨gq, gr, sq, mq, kq, cq, sr, mr, kr, cr, rfl, rfl, LTS.out, HF.out.1, HF.out.2.1, HF.out.2.2.1, HF.out.2.2.2.1, HF.out.2.2.2.2.1, BXq.out, BXr.out, TQ.out, TR.out⟩
    · go_simp
      have al := below_alloc w1d (.cells #[.bool false, .slice none 0 0] 30)
      have HF' := hide (And.intro (HF.out.1.trans ((al).mono HF.out.1.size)) (And.intro (HF.out.2.1.step (al)) (And.intro (HF.out.2.2.1.step (al)) (And.intro (HF.out.2.2.2.1.step (al)) (And.intro (HF.out.2.2.2.2.1.step (al)) (And.intro (HF.out.2.2.2.2.2.1.below (al)) (HF.out.2.2.2.2.2.2.below (al))))))))
      have BXr := hide (Box2.new w1d 30 (.bool false) (.slice none 0 0))
      have LT1r := hide (HF.out.2.1.lt)
      have LT2r := hide (HF.out.2.2.1.lt)
      have LT3r := hide (HF.out.2.2.2.1.lt)
      have LT4r := hide (HF.out.2.2.2.2.1.lt)
      have GEr := hide (HF.out.1.size)
      refine hK _ _ (fun _ => HF'.out) ?_
      clear hK K HF al
      have HF := hide HF'.out
      clear HF'
      generalize w1d.alloc (.cells #[.bool false, .slice none 0 0] 30) = wzr at *
      generalize w1d.heap.size = gr at *
      refine Calm.two (i := 6) (j := 11) (l := #[true, true, true, true, true, true, true, true, true, true, false, false, true, false, false]) (l' := #[true, true, true, true, true, true, false, true, true, true, false, true, true, false, false]) (by kernel_rfl) rfl rfl rfl rfl rfl rfl (fun K hK => ?_) (fun K hK => ?_)
      · go_simp
        refine (rnorm2_any _ _ (D.lim (n1 / n2)) _ HF.out.2.2.2.2.2.1 (D.ok_lim _)).mono ?_
        rintro e u1 ⟨v, rfl, n, hb⟩
        rw [D.val_lim] at n
        obtain ⟨sq, mq, kq, cq, rfl, n⟩ := n.cells
        replace BXr := hide (BXr.out.step hb)
        have HF' := hide (And.intro (HF.out.1.trans ((hb).mono HF.out.1.size)) (And.intro (HF.out.2.1.step (hb)) (And.intro (HF.out.2.2.1.step (hb)) (And.intro (HF.out.2.2.2.1.step (hb)) (And.intro (HF.out.2.2.2.2.1.step (hb)) (And.intro (HF.out.2.2.2.2.2.1.below (hb)) (HF.out.2.2.2.2.2.2.below (hb))))))))
        have TQ := hide (n)
        refine hK _ _ (fun _ => HF'.out) ?_
        clear hK K HF hb n
        have HF := hide HF'.out
        clear HF'
        refine Calm.two (i := 10) (j := 11) (l := #[true, true, true, true, true, true, true, true, true, true, true, false, true, false, false]) (l' := #[true, true, true, true, true, true, true, true, true, true, false, true, true, false, false]) (by kernel_rfl) rfl rfl rfl rfl rfl rfl (fun K hK => ?_) (fun K hK => ?_)
        · go_simp
          refine (rnorm2_any _ _ (D.lim (n1 % n2)) _ HF.out.2.2.2.2.2.2 (D.ok_lim _)).mono ?_
          rintro e u2 ⟨v, rfl, n, hb⟩
          rw [D.val_lim] at n
          obtain ⟨sr, mr, kr, cr, rfl, n⟩ := n.cells
          replace TQ := hide (TQ.out.below (hb))
          replace BXr := hide (BXr.out.step hb)
          have HF' := hide (And.intro (HF.out.1.trans ((hb).mono HF.out.1.size)) (And.intro (HF.out.2.1.step (hb)) (And.intro (HF.out.2.2.1.step (hb)) (And.intro (HF.out.2.2.2.1.step (hb)) (And.intro (HF.out.2.2.2.2.1.step (hb)) (And.intro (HF.out.2.2.2.2.2.1.below (hb)) (HF.out.2.2.2.2.2.2.below (hb))))))))
          have TR := hide (n)
          refine hK _ _ (fun _ => HF'.out) ?_
          clear hK K HF hb n
          have HF := hide HF'.out
          clear HF'
          refine Calm.one (i := 11) (l' := #[true, true, true, true, true, true, true, true, true, true, true, true, true, false, false]) (by kernel_rfl) rfl rfl rfl fun K hK => ?_
          go_simp
          have al := below_alloc u2 (.cells #[.bool false, .slice none 0 0] 30)
          have HF' := hide (And.intro (HF.out.1.trans ((al).mono HF.out.1.size)) (And.intro (HF.out.2.1.step (al)) (And.intro (HF.out.2.2.1.step (al)) (And.intro (HF.out.2.2.2.1.step (al)) (And.intro (HF.out.2.2.2.2.1.step (al)) (And.intro (HF.out.2.2.2.2.2.1.below (al)) (HF.out.2.2.2.2.2.2.below (al))))))))
          have BXq := hide (Box2.new u2 30 (.bool false) (.slice none 0 0))
          replace TQ := hide (TQ.out.below (al))
          replace TR := hide (TR.out.below (al))
          have LTrq := hide (BXr.out.lt)
          replace BXr := hide (BXr.out.step al)
          have LT1q := hide (HF.out.2.1.lt)
          have LT2q := hide (HF.out.2.2.1.lt)
          have LT3q := hide (HF.out.2.2.2.1.lt)
          have LT4q := hide (HF.out.2.2.2.2.1.lt)
          have GEq := hide (HF.out.1.size)
          refine hK _ _ (fun _ => HF'.out) ?_
          clear hK K HF al
          have HF := hide HF'.out
          clear HF'
          generalize u2.alloc (.cells #[.bool false, .slice none 0 0] 30) = wzq at *
          generalize u2.heap.size = gq at *
          refine Calm.one (i := 13) (l' := #[true, true, true, true, true, true, true, true, true, true, true, true, true, true, false]) (by kernel_rfl) rfl rfl rfl fun K hK => ?_
          have LTS := hide (And.intro LT1q.out (And.intro LT2q.out (And.intro LT3q.out (And.intro LT4q.out (And.intro LT1r.out (And.intro LT2r.out (And.intro LT3r.out (And.intro LT4r.out (show gq ≠ gr by first | exact Nat.ne_of_lt LTqr.out | exact Nat.ne_of_gt LTrq.out)))))))))
          have hc0 := BXq.out.cell0
          have hc1 := BXq.out.cell1
          have hf0 := BXq.out.free 0
          have hf1 := BXq.out.free 1
          go_simp
          have HF' := hide (And.intro (below_put HF.out.1 (show w.heap.size ≤ gq by have hx := LTS.out; omega) (.bool sq) (.slice mq kq cq)) (And.intro (HF.out.2.1.other (C := gq) (by have hx := LTS.out; omega) (.bool sq) (.slice mq kq cq)) (And.intro (HF.out.2.2.1.other (C := gq) (by have hx := LTS.out; omega) (.bool sq) (.slice mq kq cq)) (And.intro (HF.out.2.2.2.1.other (C := gq) (by have hx := LTS.out; omega) (.bool sq) (.slice mq kq cq)) (And.intro (HF.out.2.2.2.2.1.other (C := gq) (by have hx := LTS.out; omega) (.bool sq) (.slice mq kq cq)) (And.intro (BXq.out.keeps (by simp) (by simp) (.bool sq) (.slice mq kq cq) _ _ HF.out.2.2.2.2.2.1) (BXq.out.keeps (by simp) (by simp) (.bool sq) (.slice mq kq cq) _ _ HF.out.2.2.2.2.2.2)))))))
          replace TQ := hide (TQ.out.keep (BXq.out.keeps (by simp) (by simp) (.bool sq) (.slice mq kq cq)))
          replace TR := hide (TR.out.keep (BXq.out.keeps (by simp) (by simp) (.bool sq) (.slice mq kq cq)))
          replace BXr := hide (BXr.out.other (C := gq) (by have hx := LTS.out; omega) (.bool sq) (.slice mq kq cq))
          replace BXq := hide (BXq.out.put (.bool sq) (.slice mq kq cq))
          refine hK _ _ (fun _ => HF'.out) ?_
          clear hK K HF hc0 hf0 hc1 hf1
          have HF := hide HF'.out
          clear HF'
          generalize ((wzq.setCell ⟨gq, 0, none⟩ (.bool sq)).setCell ⟨gq, 1, none⟩ (.slice mq kq cq)) = ws1 at *
          refine Calm.one (i := 14) (l' := #[true, true, true, true, true, true, true, true, true, true, true, true, true, true, true]) (by kernel_rfl) rfl rfl rfl fun K hK => ?_
          have hc0 := BXr.out.cell0
          have hc1 := BXr.out.cell1
          have hf0 := BXr.out.free 0
          have hf1 := BXr.out.free 1
          go_simp
          have HF' := hide (And.intro (below_put HF.out.1 (show w.heap.size ≤ gr by have hx := LTS.out; omega) (.bool sr) (.slice mr kr cr)) (And.intro (HF.out.2.1.other (C := gr) (by have hx := LTS.out; omega) (.bool sr) (.slice mr kr cr)) (And.intro (HF.out.2.2.1.other (C := gr) (by have hx := LTS.out; omega) (.bool sr) (.slice mr kr cr)) (And.intro (HF.out.2.2.2.1.other (C := gr) (by have hx := LTS.out; omega) (.bool sr) (.slice mr kr cr)) (And.intro (HF.out.2.2.2.2.1.other (C := gr) (by have hx := LTS.out; omega) (.bool sr) (.slice mr kr cr)) (And.intro (BXr.out.keeps (by simp) (by simp) (.bool sr) (.slice mr kr cr) _ _ HF.out.2.2.2.2.2.1) (BXr.out.keeps (by simp) (by simp) (.bool sr) (.slice mr kr cr) _ _ HF.out.2.2.2.2.2.2)))))))
          replace TQ := hide (TQ.out.keep (BXr.out.keeps (by simp) (by simp) (.bool sr) (.slice mr kr cr)))
          replace TR := hide (TR.out.keep (BXr.out.keeps (by simp) (by simp) (.bool sr) (.slice mr kr cr)))
          replace BXq := hide (BXq.out.other (C := gr) (by have hx := LTS.out; omega) (.bool sr) (.slice mr kr cr))
          replace BXr := hide (BXr.out.put (.bool sr) (.slice mr kr cr))
          refine hK _ _ (fun _ => HF'.out) ?_
          clear hK K HF hc0 hf0 hc1 hf1
          have HF := hide HF'.out
          clear HF'
          generalize ((ws1.setCell ⟨gr, 0, none⟩ (.bool sr)).setCell ⟨gr, 1, none⟩ (.slice mr kr cr)) = ws2 at *
          refine Calm.done (by kernel_rfl) ?_
          go_wp2
          go_meet
          case rel => exact ⟨gq, gr, sq, mq, kq, cq, sr, mr, kr, cr, rfl, rfl, LTS.out, HF.out.1, HF.out.2.1, HF.out.2.2.1, HF.out.2.2.2.1, HF.out.2.2.2.2.1, BXq.out, BXr.out, TQ.out, TR.out⟩
        · go_simp
          have al := below_alloc u1 (.cells #[.bool false, .slice none 0 0] 30)
          have HF' := hide (And.intro (HF.out.1.trans ((al).mono HF.out.1.size)) (And.intro (HF.out.2.1.step (al)) (And.intro (HF.out.2.2.1.step (al)) (And.intro (HF.out.2.2.2.1.step (al)) (And.intro (HF.out.2.2.2.2.1.step (al)) (And.intro (HF.out.2.2.2.2.2.1.below (al)) (HF.out.2.2.2.2.2.2.below (al))))))))
          have BXq := hide (Box2.new u1 30 (.bool false) (.slice none 0 0))
          replace TQ := hide (TQ.out.below (al))
          have LTrq := hide (BXr.out.lt)
          replace BXr := hide (BXr.out.step al)
          have LT1q := hide (HF.out.2.1.lt)
          have LT2q := hide (HF.out.2.2.1.lt)
          have LT3q := hide (HF.out.2.2.2.1.lt)
          have LT4q := hide (HF.out.2.2.2.2.1.lt)
          have GEq := hide (HF.out.1.size)
          refine hK _ _ (fun _ => HF'.out) ?_
          clear hK K HF al
          have HF := hide HF'.out
          clear HF'
          generalize u1.alloc (.cells #[.bool false, .slice none 0 0] 30) = wzq at *
          generalize u1.heap.size = gq at *
          refine Calm.one (i := 10) (l' := #[true, true, true, true, true, true, true, true, true, true, true, true, true, false, false]) (by kernel_rfl) rfl rfl rfl fun K hK => ?_
          go_simp
          refine (rnorm2_any _ _ (D.lim (n1 % n2)) _ HF.out.2.2.2.2.2.2 (D.ok_lim _)).mono ?_
          rintro e u2 ⟨v, rfl, n, hb⟩
          rw [D.val_lim] at n
          obtain ⟨sr, mr, kr, cr, rfl, n⟩ := n.cells
          replace TQ := hide (TQ.out.below (hb))
          replace BXr := hide (BXr.out.step hb)
          replace BXq := hide (BXq.out.step hb)
          have HF' := hide (And.intro (HF.out.1.trans ((hb).mono HF.out.1.size)) (And.intro (HF.out.2.1.step (hb)) (And.intro (HF.out.2.2.1.step (hb)) (And.intro (HF.out.2.2.2.1.step (hb)) (And.intro (HF.out.2.2.2.2.1.step (hb)) (And.intro (HF.out.2.2.2.2.2.1.below (hb)) (HF.out.2.2.2.2.2.2.below (hb))))))))
          have TR := hide (n)
          refine hK _ _ (fun _ => HF'.out) ?_
          clear hK K HF hb n
          have HF := hide HF'.out
          clear HF'
          refine Calm.one (i := 13) (l' := #[true, true, true, true, true, true, true, true, true, true, true, true, true, true, false]) (by kernel_rfl) rfl rfl rfl fun K hK => ?_
          have LTS := hide (And.intro LT1q.out (And.intro LT2q.out (And.intro LT3q.out (And.intro LT4q.out (And.intro LT1r.out (And.intro LT2r.out (And.intro LT3r.out (And.intro LT4r.out (show gq ≠ gr by first | exact Nat.ne_of_lt LTqr.out | exact Nat.ne_of_gt LTrq.out)))))))))
          have hc0 := BXq.out.cell0
          have hc1 := BXq.out.cell1
          have hf0 := BXq.out.free 0
          have hf1 := BXq.out.free 1
          go_simp
          have HF' := hide (And.intro (below_put HF.out.1 (show w.heap.size ≤ gq by have hx := LTS.out; omega) (.bool sq) (.slice mq kq cq)) (And.intro (HF.out.2.1.other (C := gq) (by have hx := LTS.out; omega) (.bool sq) (.slice mq kq cq)) (And.intro (HF.out.2.2.1.other (C := gq) (by have hx := LTS.out; omega) (.bool sq) (.slice mq kq cq)) (And.intro (HF.out.2.2.2.1.other (C := gq) (by have hx := LTS.out; omega) (.bool sq) (.slice mq kq cq)) (And.intro (HF.out.2.2.2.2.1.other (C := gq) (by have hx := LTS.out; omega) (.bool sq) (.slice mq kq cq)) (And.intro (BXq.out.keeps (by simp) (by simp) (.bool sq) (.slice mq kq cq) _ _ HF.out.2.2.2.2.2.1) (BXq.out.keeps (by simp) (by simp) (.bool sq) (.slice mq kq cq) _ _ HF.out.2.2.2.2.2.2)))))))
          replace TQ := hide (TQ.out.keep (BXq.out.keeps (by simp) (by simp) (.bool sq) (.slice mq kq cq)))
          replace TR := hide (TR.out.keep (BXq.out.keeps (by simp) (by simp) (.bool sq) (.slice mq kq cq)))
          replace BXr := hide (BXr.out.other (C := gq) (by have hx := LTS.out; omega) (.bool sq) (.slice mq kq cq))
          replace BXq := hide (BXq.out.put (.bool sq) (.slice mq kq cq))
          refine hK _ _ (fun _ => HF'.out) ?_
          clear hK K HF hc0 hf0 hc1 hf1
          have HF := hide HF'.out
          clear HF'
          generalize ((u2.setCell ⟨gq, 0, none⟩ (.bool sq)).setCell ⟨gq, 1, none⟩ (.slice mq kq cq)) = ws1 at *
          refine Calm.one (i := 14) (l' := #[true, true, true, true, true, true, true, true, true, true, true, true, true, true, true]) (by kernel_rfl) rfl rfl rfl fun K hK => ?_
          have hc0 := BXr.out.cell0
          have hc1 := BXr.out.cell1
          have hf0 := BXr.out.free 0
          have hf1 := BXr.out.free 1
          go_simp
          have HF' := hide (And.intro (below_put HF.out.1 (show w.heap.size ≤ gr by have hx := LTS.out; omega) (.bool sr) (.slice mr kr cr)) (And.intro (HF.out.2.1.other (C := gr) (by have hx := LTS.out; omega) (.bool sr) (.slice mr kr cr)) (And.intro (HF.out.2.2.1.other (C := gr) (by have hx := LTS.out; omega) (.bool sr) (.slice mr kr cr)) (And.intro (HF.out.2.2.2.1.other (C := gr) (by have hx := LTS.out; omega) (.bool sr) (.slice mr kr cr)) (And.intro (HF.out.2.2.2.2.1.other (C := gr) (by have hx := LTS.out; omega) (.bool sr) (.slice mr kr cr)) (And.intro (BXr.out.keeps (by simp) (by simp) (.bool sr) (.slice mr kr cr) _ _ HF.out.2.2.2.2.2.1) (BXr.out.keeps (by simp) (by simp) (.bool sr) (.slice mr kr cr) _ _ HF.out.2.2.2.2.2.2)))))))
          replace TQ := hide (TQ.out.keep (BXr.out.keeps (by simp) (by simp) (.bool sr) (.slice mr kr cr)))
          replace TR := hide (TR.out.keep (BXr.out.keeps (by simp) (by simp) (.bool sr) (.slice mr kr cr)))
          replace BXq := hide (BXq.out.other (C := gr) (by have hx := LTS.out; omega) (.bool sr) (.slice mr kr cr))
          replace BXr := hide (BXr.out.put (.bool sr) (.slice mr kr cr))
          refine hK _ _ (fun _ => HF'.out) ?_
          clear hK K HF hc0 hf0 hc1 hf1
          have HF := hide HF'.out
          clear HF'
          generalize ((ws1.setCell ⟨gr, 0, none⟩ (.bool sr)).setCell ⟨gr, 1, none⟩ (.slice mr kr cr)) = ws2 at *
          refine Calm.done (by kernel_rfl) ?_
          go_wp2
          go_meet
          case rel => exact ⟨gq, gr, sq, mq, kq, cq, sr, mr, kr, cr, rfl, rfl, LTS.out, HF.out.1, HF.out.2.1, HF.out.2.2.1, HF.out.2.2.2.1, HF.out.2.2.2.2.1, BXq.out, BXr.out, TQ.out, TR.out⟩
      · go_simp
        have al := below_alloc wzr (.cells #[.bool false, .slice none 0 0] 30)
        have HF' := hide (And.intro (HF.out.1.trans ((al).mono HF.out.1.size)) (And.intro (HF.out.2.1.step (al)) (And.intro (HF.out.2.2.1.step (al)) (And.intro (HF.out.2.2.2.1.step (al)) (And.intro (HF.out.2.2.2.2.1.step (al)) (And.intro (HF.out.2.2.2.2.2.1.below (al)) (HF.out.2.2.2.2.2.2.below (al))))))))
        have BXq := hide (Box2.new wzr 30 (.bool false) (.slice none 0 0))
        have LTrq := hide (BXr.out.lt)
        replace BXr := hide (BXr.out.step al)
        have LT1q := hide (HF.out.2.1.lt)
        have LT2q := hide (HF.out.2.2.1.lt)
        have LT3q := hide (HF.out.2.2.2.1.lt)
        have LT4q := hide (HF.out.2.2.2.2.1.lt)
        have GEq := hide (HF.out.1.size)
        refine hK _ _ (fun _ => HF'.out) ?_
        clear hK K HF al
        have HF := hide HF'.out
        clear HF'
        generalize wzr.alloc (.cells #[.bool false, .slice none 0 0] 30) = wzq at *
        generalize wzr.heap.size = gq at *
        refine Calm.one (i := 6) (l' := #[true, true, true, true, true, true, true, true, true, true, false, true, true, false, false]) (by kernel_rfl) rfl rfl rfl fun K hK => ?_
        go_simp
        refine (rnorm2_any _ _ (D.lim (n1 / n2)) _ HF.out.2.2.2.2.2.1 (D.ok_lim _)).mono ?_
        rintro e u1 ⟨v, rfl, n, hb⟩
        rw [D.val_lim] at n
        obtain ⟨sq, mq, kq, cq, rfl, n⟩ := n.cells
        replace BXr := hide (BXr.out.step hb)
        replace BXq := hide (BXq.out.step hb)
        have HF' := hide (And.intro (HF.out.1.trans ((hb).mono HF.out.1.size)) (And.intro (HF.out.2.1.step (hb)) (And.intro (HF.out.2.2.1.step (hb)) (And.intro (HF.out.2.2.2.1.step (hb)) (And.intro (HF.out.2.2.2.2.1.step (hb)) (And.intro (HF.out.2.2.2.2.2.1.below (hb)) (HF.out.2.2.2.2.2.2.below (hb))))))))
        have TQ := hide (n)
        refine hK _ _ (fun _ => HF'.out) ?_
        clear hK K HF hb n
        have HF := hide HF'.out
        clear HF'
        refine Calm.one (i := 10) (l' := #[true, true, true, true, true, true, true, true, true, true, true, true, true, false, false]) (by kernel_rfl) rfl rfl rfl fun K hK => ?_
        go_simp
        refine (rnorm2_any _ _ (D.lim (n1 % n2)) _ HF.out.2.2.2.2.2.2 (D.ok_lim _)).mono ?_
        rintro e u2 ⟨v, rfl, n, hb⟩
        rw [D.val_lim] at n
        obtain ⟨sr, mr, kr, cr, rfl, n⟩ := n.cells
        replace TQ := hide (TQ.out.below (hb))
        replace BXr := hide (BXr.out.step hb)
        replace BXq := hide (BXq.out.step hb)
        have HF' := hide (And.intro (HF.out.1.trans ((hb).mono HF.out.1.size)) (And.intro (HF.out.2.1.step (hb)) (And.intro (HF.out.2.2.1.step (hb)) (And.intro (HF.out.2.2.2.1.step (hb)) (And.intro (HF.out.2.2.2.2.1.step (hb)) (And.intro (HF.out.2.2.2.2.2.1.below (hb)) (HF.out.2.2.2.2.2.2.below (hb))))))))
        have TR := hide (n)
        refine hK _ _ (fun _ => HF'.out) ?_
        clear hK K HF hb n
        have HF := hide HF'.out
        clear HF'
        refine Calm.one (i := 13) (l' := #[true, true, true, true, true, true, true, true, true, true, true, true, true, true, false]) (by kernel_rfl) rfl rfl rfl fun K hK => ?_
        have LTS := hide (And.intro LT1q.out (And.intro LT2q.out (And.intro LT3q.out (And.intro LT4q.out (And.intro LT1r.out (And.intro LT2r.out (And.intro LT3r.out (And.intro LT4r.out (show gq ≠ gr by first | exact Nat.ne_of_lt LTqr.out | exact Nat.ne_of_gt LTrq.out)))))))))
        have hc0 := BXq.out.cell0
        have hc1 := BXq.out.cell1
        have hf0 := BXq.out.free 0
        have hf1 := BXq.out.free 1
        go_simp
        have HF' := hide (And.intro (below_put HF.out.1 (show w.heap.size ≤ gq by have hx := LTS.out; omega) (.bool sq) (.slice mq kq cq)) (And.intro (HF.out.2.1.other (C := gq) (by have hx := LTS.out; omega) (.bool sq) (.slice mq kq cq)) (And.intro (HF.out.2.2.1.other (C := gq) (by have hx := LTS.out; omega) (.bool sq) (.slice mq kq cq)) (And.intro (HF.out.2.2.2.1.other (C := gq) (by have hx := LTS.out; omega) (.bool sq) (.slice mq kq cq)) (And.intro (HF.out.2.2.2.2.1.other (C := gq) (by have hx := LTS.out; omega) (.bool sq) (.slice mq kq cq)) (And.intro (BXq.out.keeps (by simp) (by simp) (.bool sq) (.slice mq kq cq) _ _ HF.out.2.2.2.2.2.1) (BXq.out.keeps (by simp) (by simp) (.bool sq) (.slice mq kq cq) _ _ HF.out.2.2.2.2.2.2)))))))
        replace TQ := hide (TQ.out.keep (BXq.out.keeps (by simp) (by simp) (.bool sq) (.slice mq kq cq)))
        replace TR := hide (TR.out.keep (BXq.out.keeps (by simp) (by simp) (.bool sq) (.slice mq kq cq)))
        replace BXr := hide (BXr.out.other (C := gq) (by have hx := LTS.out; omega) (.bool sq) (.slice mq kq cq))
        replace BXq := hide (BXq.out.put (.bool sq) (.slice mq kq cq))
        refine hK _ _ (fun _ => HF'.out) ?_
        clear hK K HF hc0 hf0 hc1 hf1
        have HF := hide HF'.out
        clear HF'
        generalize ((u2.setCell ⟨gq, 0, none⟩ (.bool sq)).setCell ⟨gq, 1, none⟩ (.slice mq kq cq)) = ws1 at *
        refine Calm.one (i := 14) (l' := #[true, true, true, true, true, true, true, true, true, true, true, true, true, true, true]) (by kernel_rfl) rfl rfl rfl fun K hK => ?_
        have hc0 := BXr.out.cell0
        have hc1 := BXr.out.cell1
        have hf0 := BXr.out.free 0
        have hf1 := BXr.out.free 1
        go_simp
        have HF' := hide (And.intro (below_put HF.out.1 (show w.heap.size ≤ gr by have hx := LTS.out; omega) (.bool sr) (.slice mr kr cr)) (And.intro (HF.out.2.1.other (C := gr) (by have hx := LTS.out; omega) (.bool sr) (.slice mr kr cr)) (And.intro (HF.out.2.2.1.other (C := gr) (by have hx := LTS.out; omega) (.bool sr) (.slice mr kr cr)) (And.intro (HF.out.2.2.2.1.other (C := gr) (by have hx := LTS.out; omega) (.bool sr) (.slice mr kr cr)) (And.intro (HF.out.2.2.2.2.1.other (C := gr) (by have hx := LTS.out; omega) (.bool sr) (.slice mr kr cr)) (And.intro (BXr.out.keeps (by simp) (by simp) (.bool sr) (.slice mr kr cr) _ _ HF.out.2.2.2.2.2.1) (BXr.out.keeps (by simp) (by simp) (.bool sr) (.slice mr kr cr) _ _ HF.out.2.2.2.2.2.2)))))))
        replace TQ := hide (TQ.out.keep (BXr.out.keeps (by simp) (by simp) (.bool sr) (.slice mr kr cr)))
        replace TR := hide (TR.out.keep (BXr.out.keeps (by simp) (by simp) (.bool sr) (.slice mr kr cr)))
        replace BXq := hide (BXq.out.other (C := gr) (by have hx := LTS.out; omega) (.bool sr) (.slice mr kr cr))
        replace BXr := hide (BXr.out.put (.bool sr) (.slice mr kr cr))
        refine hK _ _ (fun _ => HF'.out) ?_
        clear hK K HF hc0 hf0 hc1 hf1
        have HF := hide HF'.out
        clear HF'
        generalize ((ws1.setCell ⟨gr, 0, none⟩ (.bool sr)).setCell ⟨gr, 1, none⟩ (.slice mr kr cr)) = ws2 at *
        refine Calm.done (by kernel_rfl) ?_
        go_wp2
        go_meet
        case rel => exact ⟨gq, gr, sq, mq, kq, cq, sr, mr, kr, cr, rfl, rfl, LTS.out, HF.out.1, HF.out.2.1, HF.out.2.2.1, HF.out.2.2.2.1, HF.out.2.2.2.2.1, BXq.out, BXr.out, TQ.out, TR.out⟩
  case rest =>
  obtain ⟨gq, gr, sq, mq, kq, cq, sr, mr, kr, cr, rfl, rfl, hlts, hB, h1, h2, h3, h4, hq, hr, hiq, hir⟩ := hcut
  have LTS := hide hlts
  clear HB P0 P1 P2 P3 NQ NR
  have HB := hide hB
  have P0 := hide h1
  have P1 := hide h2
  have P2 := hide h3
  have P3 := hide h4
  have PQ := hide hq
  have PR := hide hr
  have IQ := hide hiq
  have IR := hide hir
  clear hlts hB h1 h2 h3 h4 hq hr hiq hir
  generalize hwc : wc = w5 at *
  clear hwc
  replace Y2 := hide (Y2.out.below HB.out)
  have r0 := PR.out.cell0
  have r1 := PR.out.cell1
  have HSR := hide (RInt.neg IR.out)
  cases sr with
  | true =>
    have hs : (sg b1 (n1 % n2)) < 0 := HSR.out.1 rfl
    have HS := hide hs
    clear hs HSR
    go_wp2_with fail
    clear r0 r1
    replace P2 := hide P2.out.drew
    replace P3 := hide P3.out.drew
    refine wp_calm (fun w' => Below w.heap.size w w' ∧ Box2 w' w.heap.size 30 (.bool b1) (.slice a1 L1 c1) ∧ Box2 w' (w.heap.size + 1) 30 (.bool b2) (.slice a2 L2 c2) ∧ Box2 w' gq 30 (.bool sq) (.slice mq kq cq) ∧ Box2 w' gr 30 (.bool true) (.slice mr kr cr) ∧ RInt w' (.agg #[.bool sq, .slice mq kq cq]) (sg (b1 != b2) (n1 / n2)) ∧ RInt w' (.agg #[.bool true, .slice mr kr cr]) (sg b1 (n1 % n2)) ∧ RInt w' (.agg #[.bool b2, .slice a2 L2 c2]) (sg b2 n2)) (fun j => j != 4) 5 #[false, false, false, false, false] (by kernel_rfl) rfl rfl ?_
    have HF := hide (And.intro (HB.out.drew) (And.intro (P0.out.drew) (And.intro (P1.out.drew) (And.intro (PQ.out.drew) (And.intro (PR.out.drew) (And.intro (IQ.out.drew) (And.intro (IR.out.drew) (Y2.out.drew))))))))
    generalize w5.drew = w5d at *
    refine Calm.take (i := 0) (v := ?_) (a' := ?_) (l' := #[true, false, false, false, false]) (d := some 31) rfl (by kernel_rfl) (by kernel_rfl) (by kernel_rfl) (by kernel_rfl) (fun _ _ _ h => h) HF.out rfl ?_ rfl rfl ?_ ?_
    rotate_left
    · intro w' hF; have f10 := hF.2.1.cell0; have f11 := hF.2.1.cell1; have f20 := hF.2.2.1.cell0; have f21 := hF.2.2.1.cell1; have f30 := hF.2.2.2.1.cell0; have f31 := hF.2.2.2.1.cell1; have f40 := hF.2.2.2.2.1.cell0; have f41 := hF.2.2.2.2.1.cell1; clear hF; go_simp; try rfl
    rotate_left
    · simp only [Act.put]; exact rfl
    refine Calm.take (i := 1) (v := ?_) (a' := ?_) (l' := #[true, true, false, false, false]) (d := some 32) rfl (by kernel_rfl) (by kernel_rfl) (by kernel_rfl) (by kernel_rfl) (fun _ _ _ h => h) HF.out rfl ?_ rfl rfl ?_ ?_
    rotate_left
    · intro w' hF; have f10 := hF.2.1.cell0; have f11 := hF.2.1.cell1; have f20 := hF.2.2.1.cell0; have f21 := hF.2.2.1.cell1; have f30 := hF.2.2.2.1.cell0; have f31 := hF.2.2.2.1.cell1; have f40 := hF.2.2.2.2.1.cell0; have f41 := hF.2.2.2.2.1.cell1; clear hF; go_simp; try rfl
    rotate_left
    · simp only [Act.put]; exact rfl
    refine Calm.one (i := 2) (l' := #[true, true, true, false, false]) (by kernel_rfl) rfl rfl rfl fun K hK => ?_
    go_simp
    refine (rabs_any _ (sg b2 n2) _ HF.out.2.2.2.2.2.2.2).mono ?_
    rintro e u1 ⟨v, rfl, n, hb⟩
    replace P2 := hide (P2.out.step (hb))
    replace P3 := hide (P3.out.step (hb))
    have HF' := hide (And.intro (HF.out.1.trans ((hb).mono HF.out.1.size)) (And.intro (HF.out.2.1.step (hb)) (And.intro (HF.out.2.2.1.step (hb)) (And.intro (HF.out.2.2.2.1.step (hb)) (And.intro (HF.out.2.2.2.2.1.step (hb)) (And.intro (HF.out.2.2.2.2.2.1.below (hb)) (And.intro (HF.out.2.2.2.2.2.2.1.below (hb)) (HF.out.2.2.2.2.2.2.2.below (hb)))))))))
    have TA := hide (n)
    refine hK _ _ (fun _ => HF'.out) ?_
    clear hK K HF hb n
    have HF := hide HF'.out
    clear HF'
    refine Calm.one (i := 3) (l' := #[true, true, true, true, false]) (by kernel_rfl) rfl rfl rfl fun K hK => ?_
    go_simp
    refine (radd2_any _ _ (sg b1 (n1 % n2)) ((sg b2 n2).natAbs : Int) _ HF.out.2.2.2.2.2.2.1 TA.out LR.out (by rw [Int.natAbs_natCast]; exact LY.out)).mono ?_
    rintro e u2 ⟨v, rfl, n, hb⟩
    obtain ⟨s4, m4, k4, d4, rfl, n⟩ := n.cells
    replace P2 := hide (P2.out.step (hb))
    replace P3 := hide (P3.out.step (hb))
    clear TA
    have HF' := hide (And.intro (HF.out.1.trans ((hb).mono HF.out.1.size)) (And.intro (HF.out.2.1.step (hb)) (And.intro (HF.out.2.2.1.step (hb)) (And.intro (HF.out.2.2.2.1.step (hb)) (And.intro (HF.out.2.2.2.2.1.step (hb)) (And.intro (HF.out.2.2.2.2.2.1.below (hb)) (And.intro (HF.out.2.2.2.2.2.2.1.below (hb)) (HF.out.2.2.2.2.2.2.2.below (hb)))))))))
    have TR := hide (n)
    refine hK _ _ (fun _ => HF'.out) ?_
    clear hK K HF hb n
    have HF := hide HF'.out
    clear HF'
    refine Calm.one (i := 4) (l' := #[true, true, true, true, true]) (by kernel_rfl) rfl rfl rfl fun K hK => ?_
    have hc0 := HF.out.2.2.2.2.1.cell0
    have hc1 := HF.out.2.2.2.2.1.cell1
    have hf0 := HF.out.2.2.2.2.1.free 0
    have hf1 := HF.out.2.2.2.2.1.free 1
    go_simp
    refine hK _ _ (fun h => absurd h (by decide)) ?_
    clear hK K
    refine Calm.done (by kernel_rfl) ?_
    clear hc0 hc1 hf0 hf1
    have HBn := hide (below_put HF.out.1 (show w.heap.size ≤ gr by have hx := LTS.out; omega) (.bool s4) (.slice m4 k4 d4))
    have P0n := hide (HF.out.2.1.other (C := gr) (by have hx := LTS.out; omega) (.bool s4) (.slice m4 k4 d4))
    have P1n := hide (HF.out.2.2.1.other (C := gr) (by have hx := LTS.out; omega) (.bool s4) (.slice m4 k4 d4))
    have PQn := hide (HF.out.2.2.2.1.other (C := gr) (by have hx := LTS.out; omega) (.bool s4) (.slice m4 k4 d4))
    have PRn := hide (HF.out.2.2.2.2.1.put (.bool s4) (.slice m4 k4 d4))
    have IQn := hide (HF.out.2.2.2.2.2.1.keep (HF.out.2.2.2.2.1.keeps (by simp) (by simp) (.bool s4) (.slice m4 k4 d4)))
    have IRn := hide (TR.out.keep (HF.out.2.2.2.2.1.keeps (by simp) (by simp) (.bool s4) (.slice m4 k4 d4)))
    have Y2n := hide (HF.out.2.2.2.2.2.2.2.keep (HF.out.2.2.2.2.1.keeps (by simp) (by simp) (.bool s4) (.slice m4 k4 d4)))
    replace P2 := hide (P2.out.other (C := gr) (by have hx := LTS.out; omega) (.bool s4) (.slice m4 k4 d4))
    replace P3 := hide (P3.out.other (C := gr) (by have hx := LTS.out; omega) (.bool s4) (.slice m4 k4 d4))
    clear HB P0 P1 PQ PR IQ IR Y2 HF TR
    have HB := hide HBn.out
    have P0 := hide P0n.out
    have P1 := hide P1n.out
    have PQ := hide PQn.out
    have PR := hide PRn.out
    have IQ := hide IQn.out
    have IR := hide IRn.out
    have Y2 := hide Y2n.out
    clear HBn P0n P1n PQn PRn IQn IRn Y2n
    generalize (u2.setCell ⟨gr, 0, none⟩ (.bool s4)).setCell ⟨gr, 1, none⟩ (.slice m4 k4 d4) = w6 at *
    go_wp2_with fail
    replace P2 := hide P2.out.drew
    replace P3 := hide P3.out.drew
    refine wp_calm (fun w' => Below w.heap.size w w' ∧ Box2 w' w.heap.size 30 (.bool b1) (.slice a1 L1 c1) ∧ Box2 w' (w.heap.size + 1) 30 (.bool b2) (.slice a2 L2 c2) ∧ Box2 w' gq 30 (.bool sq) (.slice mq kq cq) ∧ Box2 w' gr 30 (.bool s4) (.slice m4 k4 d4) ∧ RInt w' (.agg #[.bool sq, .slice mq kq cq]) (sg (b1 != b2) (n1 / n2)) ∧ RInt w' (.agg #[.bool s4, .slice m4 k4 d4]) ((sg b1 (n1 % n2)) + ((sg b2 n2).natAbs : Int)) ∧ RInt w' (.agg #[.bool b2, .slice a2 L2 c2]) (sg b2 n2)) (fun j => j != 5) 6 #[false, false, false, false, false, false] (by kernel_rfl) rfl rfl ?_
    have HF := hide (And.intro (HB.out.drew) (And.intro (P0.out.drew) (And.intro (P1.out.drew) (And.intro (PQ.out.drew) (And.intro (PR.out.drew) (And.intro (IQ.out.drew) (And.intro (IR.out.drew) (Y2.out.drew))))))))
    generalize w6.drew = w6d at *
    refine Calm.take (i := 0) (v := ?_) (a' := ?_) (l' := #[true, false, false, false, false, false]) (d := some 35) rfl (by kernel_rfl) (by kernel_rfl) (by kernel_rfl) (by kernel_rfl) (fun _ _ _ h => h) HF.out rfl ?_ rfl rfl ?_ ?_
    rotate_left
    · intro w' hF; have f10 := hF.2.1.cell0; have f11 := hF.2.1.cell1; have f20 := hF.2.2.1.cell0; have f21 := hF.2.2.1.cell1; have f30 := hF.2.2.2.1.cell0; have f31 := hF.2.2.2.1.cell1; have f40 := hF.2.2.2.2.1.cell0; have f41 := hF.2.2.2.2.1.cell1; clear hF; go_simp; try rfl
    rotate_left
    · simp only [Act.put]; exact rfl
    refine Calm.take (i := 1) (v := ?_) (a' := ?_) (l' := #[true, true, false, false, false, false]) (d := some 36) rfl (by kernel_rfl) (by kernel_rfl) (by kernel_rfl) (by kernel_rfl) (fun _ _ _ h => h) HF.out rfl ?_ rfl rfl ?_ ?_
    rotate_left
    · intro w' hF; have f10 := hF.2.1.cell0; have f11 := hF.2.1.cell1; have f20 := hF.2.2.1.cell0; have f21 := hF.2.2.1.cell1; have f30 := hF.2.2.2.1.cell0; have f31 := hF.2.2.2.1.cell1; have f40 := hF.2.2.2.2.1.cell0; have f41 := hF.2.2.2.2.1.cell1; clear hF; go_simp; try rfl
    rotate_left
    · simp only [Act.put]; exact rfl
    refine Calm.one (i := 2) (l' := #[true, true, true, false, false, false]) (by kernel_rfl) rfl rfl rfl fun K hK => ?_
    go_simp
    refine (rsign_any _ (sg b2 n2) _ HF.out.2.2.2.2.2.2.2).mono ?_
    rintro e u3 ⟨rfl, hb⟩
    replace P2 := hide (P2.out.step (hb))
    replace P3 := hide (P3.out.step (hb))
    have HF' := hide (And.intro (HF.out.1.trans ((hb).mono HF.out.1.size)) (And.intro (HF.out.2.1.step (hb)) (And.intro (HF.out.2.2.1.step (hb)) (And.intro (HF.out.2.2.2.1.step (hb)) (And.intro (HF.out.2.2.2.2.1.step (hb)) (And.intro (HF.out.2.2.2.2.2.1.below (hb)) (And.intro (HF.out.2.2.2.2.2.2.1.below (hb)) (HF.out.2.2.2.2.2.2.2.below (hb)))))))))
    refine hK _ _ (fun _ => HF'.out) ?_
    clear hK K HF hb
    have HF := hide HF'.out
    clear HF'
    refine Calm.one (i := 3) (l' := #[true, true, true, true, false, false]) (by kernel_rfl) rfl rfl rfl fun K hK => ?_
    go_simp
    refine (rof_any (sgnI (sg b2 n2)) _ (sgnI_lo _) (sgnI_hi _)).mono ?_
    rintro e u4 ⟨v, rfl, n, hb⟩
    replace P2 := hide (P2.out.step (hb))
    replace P3 := hide (P3.out.step (hb))
    have HF' := hide (And.intro (HF.out.1.trans ((hb).mono HF.out.1.size)) (And.intro (HF.out.2.1.step (hb)) (And.intro (HF.out.2.2.1.step (hb)) (And.intro (HF.out.2.2.2.1.step (hb)) (And.intro (HF.out.2.2.2.2.1.step (hb)) (And.intro (HF.out.2.2.2.2.2.1.below (hb)) (And.intro (HF.out.2.2.2.2.2.2.1.below (hb)) (HF.out.2.2.2.2.2.2.2.below (hb)))))))))
    have TS := hide (n)
    refine hK _ _ (fun _ => HF'.out) ?_
    clear hK K HF hb n
    have HF := hide HF'.out
    clear HF'
    refine Calm.one (i := 4) (l' := #[true, true, true, true, true, false]) (by kernel_rfl) rfl rfl rfl fun K hK => ?_
    go_simp
    refine (rsub2_any _ _ (sg (b1 != b2) (n1 / n2)) (sgnI (sg b2 n2)) _ HF.out.2.2.2.2.2.1 TS.out LQ.out (sgn_dlen _)).mono ?_
    rintro e u5 ⟨v, rfl, n, hb⟩
    obtain ⟨s3, m3, k3, d3, rfl, n⟩ := n.cells
    replace P2 := hide (P2.out.step (hb))
    replace P3 := hide (P3.out.step (hb))
    clear TS
    have HF' := hide (And.intro (HF.out.1.trans ((hb).mono HF.out.1.size)) (And.intro (HF.out.2.1.step (hb)) (And.intro (HF.out.2.2.1.step (hb)) (And.intro (HF.out.2.2.2.1.step (hb)) (And.intro (HF.out.2.2.2.2.1.step (hb)) (And.intro (HF.out.2.2.2.2.2.1.below (hb)) (And.intro (HF.out.2.2.2.2.2.2.1.below (hb)) (HF.out.2.2.2.2.2.2.2.below (hb)))))))))
    have TQ := hide (n)
    refine hK _ _ (fun _ => HF'.out) ?_
    clear hK K HF hb n
    have HF := hide HF'.out
    clear HF'
    refine Calm.one (i := 5) (l' := #[true, true, true, true, true, true]) (by kernel_rfl) rfl rfl rfl fun K hK => ?_
    have hc0 := HF.out.2.2.2.1.cell0
    have hc1 := HF.out.2.2.2.1.cell1
    have hf0 := HF.out.2.2.2.1.free 0
    have hf1 := HF.out.2.2.2.1.free 1
    go_simp
    refine hK _ _ (fun h => absurd h (by decide)) ?_
    clear hK K
    refine Calm.done (by kernel_rfl) ?_
    clear hc0 hc1 hf0 hf1
    have HBn := hide (below_put HF.out.1 (show w.heap.size ≤ gq by have hx := LTS.out; omega) (.bool s3) (.slice m3 k3 d3))
    have P0n := hide (HF.out.2.1.other (C := gq) (by have hx := LTS.out; omega) (.bool s3) (.slice m3 k3 d3))
    have P1n := hide (HF.out.2.2.1.other (C := gq) (by have hx := LTS.out; omega) (.bool s3) (.slice m3 k3 d3))
    have PQn := hide (HF.out.2.2.2.1.put (.bool s3) (.slice m3 k3 d3))
    have PRn := hide (HF.out.2.2.2.2.1.other (C := gq) (by have hx := LTS.out; omega) (.bool s3) (.slice m3 k3 d3))
    have IQn := hide (TQ.out.keep (HF.out.2.2.2.1.keeps (by simp) (by simp) (.bool s3) (.slice m3 k3 d3)))
    have IRn := hide (HF.out.2.2.2.2.2.2.1.keep (HF.out.2.2.2.1.keeps (by simp) (by simp) (.bool s3) (.slice m3 k3 d3)))
    have Y2n := hide (HF.out.2.2.2.2.2.2.2.keep (HF.out.2.2.2.1.keeps (by simp) (by simp) (.bool s3) (.slice m3 k3 d3)))
    replace P2 := hide (P2.out.other (C := gq) (by have hx := LTS.out; omega) (.bool s3) (.slice m3 k3 d3))
    replace P3 := hide (P3.out.other (C := gq) (by have hx := LTS.out; omega) (.bool s3) (.slice m3 k3 d3))
    clear HB P0 P1 PQ PR IQ IR Y2 HF TQ
    have HB := hide HBn.out
    have P0 := hide P0n.out
    have P1 := hide P1n.out
    have PQ := hide PQn.out
    have PR := hide PRn.out
    have IQ := hide IQn.out
    have IR := hide IRn.out
    have Y2 := hide Y2n.out
    clear HBn P0n P1n PQn PRn IQn IRn Y2n
    generalize (u5.setCell ⟨gq, 0, none⟩ (.bool s3)).setCell ⟨gq, 1, none⟩ (.slice m3 k3 d3) = w7 at *
    go_wp2_with fail
    replace P2 := hide P2.out.drew
    replace P3 := hide P3.out.drew
    refine wp_calm (fun w' => Below w.heap.size w w' ∧ Box2 w' w.heap.size 30 (.bool b1) (.slice a1 L1 c1) ∧ Box2 w' (w.heap.size + 1) 30 (.bool b2) (.slice a2 L2 c2) ∧ Box2 w' gq 30 (.bool s3) (.slice m3 k3 d3) ∧ Box2 w' gr 30 (.bool s4) (.slice m4 k4 d4) ∧ RInt w' (.agg #[.bool s3, .slice m3 k3 d3]) ((sg (b1 != b2) (n1 / n2)) - sgnI (sg b2 n2)) ∧ RInt w' (.agg #[.bool s4, .slice m4 k4 d4]) ((sg b1 (n1 % n2)) + ((sg b2 n2).natAbs : Int))) (fun _ => true) 4 #[false, false, false, false] (by kernel_rfl) rfl rfl ?_
    have HF := hide (And.intro (HB.out.drew) (And.intro (P0.out.drew) (And.intro (P1.out.drew) (And.intro (PQ.out.drew) (And.intro (PR.out.drew) (And.intro (IQ.out.drew) (IR.out.drew)))))))
    generalize w7.drew = w7d at *
    refine Calm.take (i := 0) (v := ?_) (a' := ?_) (l' := #[true, false, false, false]) (d := some 40) rfl (by kernel_rfl) (by kernel_rfl) (by kernel_rfl) (by kernel_rfl) (fun _ _ _ h => h) HF.out rfl ?_ rfl rfl ?_ ?_
    rotate_left
    · intro w' hF; have f10 := hF.2.1.cell0; have f11 := hF.2.1.cell1; have f20 := hF.2.2.1.cell0; have f21 := hF.2.2.1.cell1; have f30 := hF.2.2.2.1.cell0; have f31 := hF.2.2.2.1.cell1; have f40 := hF.2.2.2.2.1.cell0; have f41 := hF.2.2.2.2.1.cell1; clear hF; go_simp; try rfl
    rotate_left
    · simp only [Act.put]; exact rfl
    refine Calm.take (i := 1) (v := ?_) (a' := ?_) (l' := #[true, true, false, false]) (d := some 41) rfl (by kernel_rfl) (by kernel_rfl) (by kernel_rfl) (by kernel_rfl) (fun _ _ _ h => h) HF.out rfl ?_ rfl rfl ?_ ?_
    rotate_left
    · intro w' hF; have f10 := hF.2.1.cell0; have f11 := hF.2.1.cell1; have f20 := hF.2.2.1.cell0; have f21 := hF.2.2.1.cell1; have f30 := hF.2.2.2.1.cell0; have f31 := hF.2.2.2.1.cell1; have f40 := hF.2.2.2.2.1.cell0; have f41 := hF.2.2.2.2.1.cell1; clear hF; go_simp; try rfl
    rotate_left
    · simp only [Act.put]; exact rfl
    refine Calm.one (i := 2) (l' := #[true, true, true, false]) (by kernel_rfl) rfl rfl rfl fun K hK => ?_
    have hc0 := P2.out.cell0
    have hc1 := P2.out.cell1
    have hf0 := P2.out.free 0
    have hf1 := P2.out.free 1
    go_simp
    have HF' := hide (And.intro (below_put HF.out.1 (show w.heap.size ≤ (w.heap.size + 1 + 1) by have hx := LTS.out; omega) (.bool s3) (.slice m3 k3 d3)) (And.intro (HF.out.2.1.other (C := (w.heap.size + 1 + 1)) (by have hx := LTS.out; omega) (.bool s3) (.slice m3 k3 d3)) (And.intro (HF.out.2.2.1.other (C := (w.heap.size + 1 + 1)) (by have hx := LTS.out; omega) (.bool s3) (.slice m3 k3 d3)) (And.intro (HF.out.2.2.2.1.other (C := (w.heap.size + 1 + 1)) (by have hx := LTS.out; omega) (.bool s3) (.slice m3 k3 d3)) (And.intro (HF.out.2.2.2.2.1.other (C := (w.heap.size + 1 + 1)) (by have hx := LTS.out; omega) (.bool s3) (.slice m3 k3 d3)) (And.intro (HF.out.2.2.2.2.2.1.keep (P2.out.keeps (by simp) (by simp) (.bool s3) (.slice m3 k3 d3))) (HF.out.2.2.2.2.2.2.keep (P2.out.keeps (by simp) (by simp) (.bool s3) (.slice m3 k3 d3)))))))))
    replace P3 := hide (P3.out.other (C := (w.heap.size + 1 + 1)) (by have hx := LTS.out; omega) (.bool s3) (.slice m3 k3 d3))
    replace P2 := hide (P2.out.put (.bool s3) (.slice m3 k3 d3))
    refine hK _ _ (fun _ => HF'.out) ?_
    clear hK K HF hc0 hf0 hc1 hf1
    have HF := hide HF'.out
    clear HF'
    generalize ((w7d.setCell ⟨(w.heap.size + 1 + 1), 0, none⟩ (.bool s3)).setCell ⟨(w.heap.size + 1 + 1), 1, none⟩ (.slice m3 k3 d3)) = wt1 at *
    refine Calm.one (i := 3) (l' := #[true, true, true, true]) (by kernel_rfl) rfl rfl rfl fun K hK => ?_
    have hc0 := P3.out.cell0
    have hc1 := P3.out.cell1
    have hf0 := P3.out.free 0
    have hf1 := P3.out.free 1
    go_simp
    have HF' := hide (And.intro (below_put HF.out.1 (show w.heap.size ≤ (w.heap.size + 1 + 1 + 1) by have hx := LTS.out; omega) (.bool s4) (.slice m4 k4 d4)) (And.intro (HF.out.2.1.other (C := (w.heap.size + 1 + 1 + 1)) (by have hx := LTS.out; omega) (.bool s4) (.slice m4 k4 d4)) (And.intro (HF.out.2.2.1.other (C := (w.heap.size + 1 + 1 + 1)) (by have hx := LTS.out; omega) (.bool s4) (.slice m4 k4 d4)) (And.intro (HF.out.2.2.2.1.other (C := (w.heap.size + 1 + 1 + 1)) (by have hx := LTS.out; omega) (.bool s4) (.slice m4 k4 d4)) (And.intro (HF.out.2.2.2.2.1.other (C := (w.heap.size + 1 + 1 + 1)) (by have hx := LTS.out; omega) (.bool s4) (.slice m4 k4 d4)) (And.intro (HF.out.2.2.2.2.2.1.keep (P3.out.keeps (by simp) (by simp) (.bool s4) (.slice m4 k4 d4))) (HF.out.2.2.2.2.2.2.keep (P3.out.keeps (by simp) (by simp) (.bool s4) (.slice m4 k4 d4)))))))))
    replace P2 := hide (P2.out.other (C := (w.heap.size + 1 + 1 + 1)) (by have hx := LTS.out; omega) (.bool s4) (.slice m4 k4 d4))
    replace P3 := hide (P3.out.put (.bool s4) (.slice m4 k4 d4))
    refine hK _ _ (fun _ => HF'.out) ?_
    clear hK K HF hc0 hf0 hc1 hf1
    have HF := hide HF'.out
    clear HF'
    generalize ((wt1.setCell ⟨(w.heap.size + 1 + 1 + 1), 0, none⟩ (.bool s4)).setCell ⟨(w.heap.size + 1 + 1 + 1), 1, none⟩ (.slice m4 k4 d4)) = wt2 at *
    refine Calm.done (by kernel_rfl) ?_
    go_wp2
    refine ret_two rfl (w.heap.size + 1 + 1) (w.heap.size + 1 + 1 + 1) _ _ _ _ rfl rfl P2.out P3.out rfl ?_
    exact ⟨_, _, rfl, (div_less b1 b2 n1 n2 hy HS.out).1 ▸ HF.out.2.2.2.2.2.1, (div_less b1 b2 n1 n2 hy HS.out).2 ▸ HF.out.2.2.2.2.2.2, HF.out.1⟩
  | false =>
    have hs : ¬ (sg b1 (n1 % n2)) < 0 := fun h => absurd (HSR.out.2 h) (by decide)
    have HS := hide hs
    clear hs HSR
    go_wp2_with fail
    clear r0 r1
    replace P2 := hide P2.out.drew
    replace P3 := hide P3.out.drew
    refine wp_calm (fun w' => Below w.heap.size w w' ∧ Box2 w' w.heap.size 30 (.bool b1) (.slice a1 L1 c1) ∧ Box2 w' (w.heap.size + 1) 30 (.bool b2) (.slice a2 L2 c2) ∧ Box2 w' gq 30 (.bool sq) (.slice mq kq cq) ∧ Box2 w' gr 30 (.bool false) (.slice mr kr cr) ∧ RInt w' (.agg #[.bool sq, .slice mq kq cq]) (sg (b1 != b2) (n1 / n2)) ∧ RInt w' (.agg #[.bool false, .slice mr kr cr]) (sg b1 (n1 % n2))) (fun _ => true) 4 #[false, false, false, false] (by kernel_rfl) rfl rfl ?_
    have HF := hide (And.intro (HB.out.drew) (And.intro (P0.out.drew) (And.intro (P1.out.drew) (And.intro (PQ.out.drew) (And.intro (PR.out.drew) (And.intro (IQ.out.drew) (IR.out.drew)))))))
    generalize w5.drew = w5d at *
    refine Calm.take (i := 0) (v := ?_) (a' := ?_) (l' := #[true, false, false, false]) (d := some 40) rfl (by kernel_rfl) (by kernel_rfl) (by kernel_rfl) (by kernel_rfl) (fun _ _ _ h => h) HF.out rfl ?_ rfl rfl ?_ ?_
    rotate_left
    · intro w' hF; have f10 := hF.2.1.cell0; have f11 := hF.2.1.cell1; have f20 := hF.2.2.1.cell0; have f21 := hF.2.2.1.cell1; have f30 := hF.2.2.2.1.cell0; have f31 := hF.2.2.2.1.cell1; have f40 := hF.2.2.2.2.1.cell0; have f41 := hF.2.2.2.2.1.cell1; clear hF; go_simp; try rfl
    rotate_left
    · simp only [Act.put]; exact rfl
    refine Calm.take (i := 1) (v := ?_) (a' := ?_) (l' := #[true, true, false, false]) (d := some 41) rfl (by kernel_rfl) (by kernel_rfl) (by kernel_rfl) (by kernel_rfl) (fun _ _ _ h => h) HF.out rfl ?_ rfl rfl ?_ ?_
    rotate_left
    · intro w' hF; have f10 := hF.2.1.cell0; have f11 := hF.2.1.cell1; have f20 := hF.2.2.1.cell0; have f21 := hF.2.2.1.cell1; have f30 := hF.2.2.2.1.cell0; have f31 := hF.2.2.2.1.cell1; have f40 := hF.2.2.2.2.1.cell0; have f41 := hF.2.2.2.2.1.cell1; clear hF; go_simp; try rfl
    rotate_left
    · simp only [Act.put]; exact rfl
    refine Calm.one (i := 2) (l' := #[true, true, true, false]) (by kernel_rfl) rfl rfl rfl fun K hK => ?_
    have hc0 := P2.out.cell0
    have hc1 := P2.out.cell1
    have hf0 := P2.out.free 0
    have hf1 := P2.out.free 1
    go_simp
    have HF' := hide (And.intro (below_put HF.out.1 (show w.heap.size ≤ (w.heap.size + 1 + 1) by have hx := LTS.out; omega) (.bool sq) (.slice mq kq cq)) (And.intro (HF.out.2.1.other (C := (w.heap.size + 1 + 1)) (by have hx := LTS.out; omega) (.bool sq) (.slice mq kq cq)) (And.intro (HF.out.2.2.1.other (C := (w.heap.size + 1 + 1)) (by have hx := LTS.out; omega) (.bool sq) (.slice mq kq cq)) (And.intro (HF.out.2.2.2.1.other (C := (w.heap.size + 1 + 1)) (by have hx := LTS.out; omega) (.bool sq) (.slice mq kq cq)) (And.intro (HF.out.2.2.2.2.1.other (C := (w.heap.size + 1 + 1)) (by have hx := LTS.out; omega) (.bool sq) (.slice mq kq cq)) (And.intro (HF.out.2.2.2.2.2.1.keep (P2.out.keeps (by simp) (by simp) (.bool sq) (.slice mq kq cq))) (HF.out.2.2.2.2.2.2.keep (P2.out.keeps (by simp) (by simp) (.bool sq) (.slice mq kq cq)))))))))
    replace P3 := hide (P3.out.other (C := (w.heap.size + 1 + 1)) (by have hx := LTS.out; omega) (.bool sq) (.slice mq kq cq))
    replace P2 := hide (P2.out.put (.bool sq) (.slice mq kq cq))
    refine hK _ _ (fun _ => HF'.out) ?_
    clear hK K HF hc0 hf0 hc1 hf1
    have HF := hide HF'.out
    clear HF'
    generalize ((w5d.setCell ⟨(w.heap.size + 1 + 1), 0, none⟩ (.bool sq)).setCell ⟨(w.heap.size + 1 + 1), 1, none⟩ (.slice mq kq cq)) = wt1 at *
    refine Calm.one (i := 3) (l' := #[true, true, true, true]) (by kernel_rfl) rfl rfl rfl fun K hK => ?_
    have hc0 := P3.out.cell0
    have hc1 := P3.out.cell1
    have hf0 := P3.out.free 0
    have hf1 := P3.out.free 1
    go_simp
    have HF' := hide (And.intro (below_put HF.out.1 (show w.heap.size ≤ (w.heap.size + 1 + 1 + 1) by have hx := LTS.out; omega) (.bool false) (.slice mr kr cr)) (And.intro (HF.out.2.1.other (C := (w.heap.size + 1 + 1 + 1)) (by have hx := LTS.out; omega) (.bool false) (.slice mr kr cr)) (And.intro (HF.out.2.2.1.other (C := (w.heap.size + 1 + 1 + 1)) (by have hx := LTS.out; omega) (.bool false) (.slice mr kr cr)) (And.intro (HF.out.2.2.2.1.other (C := (w.heap.size + 1 + 1 + 1)) (by have hx := LTS.out; omega) (.bool false) (.slice mr kr cr)) (And.intro (HF.out.2.2.2.2.1.other (C := (w.heap.size + 1 + 1 + 1)) (by have hx := LTS.out; omega) (.bool false) (.slice mr kr cr)) (And.intro (HF.out.2.2.2.2.2.1.keep (P3.out.keeps (by simp) (by simp) (.bool false) (.slice mr kr cr))) (HF.out.2.2.2.2.2.2.keep (P3.out.keeps (by simp) (by simp) (.bool false) (.slice mr kr cr)))))))))
    replace P2 := hide (P2.out.other (C := (w.heap.size + 1 + 1 + 1)) (by have hx := LTS.out; omega) (.bool false) (.slice mr kr cr))
    replace P3 := hide (P3.out.put (.bool false) (.slice mr kr cr))
    refine hK _ _ (fun _ => HF'.out) ?_
    clear hK K HF hc0 hf0 hc1 hf1
    have HF := hide HF'.out
    clear HF'
    generalize ((wt1.setCell ⟨(w.heap.size + 1 + 1 + 1), 0, none⟩ (.bool false)).setCell ⟨(w.heap.size + 1 + 1 + 1), 1, none⟩ (.slice mr kr cr)) = wt2 at *
    refine Calm.done (by kernel_rfl) ?_
    go_wp2
    refine ret_two rfl (w.heap.size + 1 + 1) (w.heap.size + 1 + 1 + 1) _ _ _ _ rfl rfl P2.out P3.out rfl ?_
    exact ⟨_, _, rfl, (div_plain b1 b2 n1 n2 hy (by have := HS.out; omega)).1 ▸ HF.out.2.2.2.2.2.1, (div_plain b1 b2 n1 n2 hy (by have := HS.out; omega)).2 ▸ HF.out.2.2.2.2.2.2, HF.out.1⟩
end Go.Proofs.Ytbaicocncalfaaa
