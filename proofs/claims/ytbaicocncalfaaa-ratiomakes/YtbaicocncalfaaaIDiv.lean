/- integer.Int's DivMod: quotient and remainder, which is never below 0. -/
import Derived.Test.YtbaicocncalfaaaCalm3
import Derived.Test.YtbaicocncalfaaaDivAll
import Derived.Deep.Cut
namespace Go.Proofs.Ytbaicocncalfaaa
open Go.RowKit

theorem div_unique {x y q r : Int} (e : r + y * q = x) (h0 : 0 ≤ r) (h1 : r < y.natAbs) : x / y = q ∧ x % y = r := by
  by_cases hp : 0 < y
  · exact (Int.ediv_emod_unique hp).2 ⟨e, h0, by omega⟩
  · have h := (Int.ediv_emod_unique (a := x) (b := -y) (q := -q) (r := r) (by omega)).2 ⟨by rw [Int.neg_mul_neg]; exact e, h0, by omega⟩
    rw [Int.ediv_neg, Int.emod_neg] at h
    exact ⟨by omega, h.2⟩
theorem sg_split (b1 b2 : Bool) (n1 n2 : Nat) : sg b1 (n1 % n2) + sg b2 n2 * sg (b1 != b2) (n1 / n2) = sg b1 n1 := by
  rw [← sg_mul, show (b2 != (b1 != b2)) = b1 by cases b1 <;> cases b2 <;> rfl, ← sg_add, Nat.mod_add_div]
theorem div_plain (b1 b2 : Bool) (n1 n2 : Nat) (hy : 0 < n2) (hs : ¬ sg b1 (n1 % n2) < 0) : sg (b1 != b2) (n1 / n2) = sg b1 n1 / sg b2 n2 ∧ sg b1 (n1 % n2) = sg b1 n1 % sg b2 n2 := by
  have h := div_unique (y := sg b2 n2)  (sg_split b1 b2 n1 n2) (by omega) (by
    rw [sg_abs]; have := Nat.mod_lt n1 hy
    cases b1 <;> simp at * <;> omega)
  exact ⟨h.1.symm, h.2.symm⟩
theorem sgn_mul (y : Int) : y * sgnI y = y.natAbs := by
  unfold sgnI; split
  · omega
  · split <;> omega
theorem div_less (b1 b2 : Bool) (n1 n2 : Nat) (hy : 0 < n2) (hs : sg b1 (n1 % n2) < 0) : sg (b1 != b2) (n1 / n2) - sgnI (sg b2 n2) = sg b1 n1 / sg b2 n2 ∧ sg b1 (n1 % n2) + ((sg b2 n2).natAbs : Int) = sg b1 n1 % sg b2 n2 := by
  have hm := Nat.mod_lt n1 hy
  have h := div_unique (x := sg b1 n1) (y := sg b2 n2) (q := sg (b1 != b2) (n1 / n2) - sgnI (sg b2 n2)) (r := sg b1 (n1 % n2) + ((sg b2 n2).natAbs : Int)) 
    (by have := sg_split b1 b2 n1 n2; rw [Int.mul_sub, sgn_mul]; omega) (by rw [sg_abs]; cases b1 <;> simp at * <;> omega) (by rw [sg_abs]; omega)
  exact ⟨h.1.symm, h.2.symm⟩
theorem sgnI_lo (z : Int) : -9223372036854775808 ≤ sgnI z := by unfold sgnI; split; omega; split <;> omega
theorem sgnI_hi (z : Int) : sgnI z ≤ 9223372036854775807 := by unfold sgnI; split; omega; split <;> omega
theorem sgnI_len (z : Int) : (lim (sgnI z).natAbs).length ≤ 1000000000 := Nat.le_trans (lim_length_le (k := 1) (by unfold sgnI BB; split; decide; split <;> decide)) (by decide)
theorem lim_len_mono {m n : Nat} (h : m ≤ n) : (lim m).length ≤ (lim n).length := by
  rcases Nat.lt_or_ge (lim n).length (lim m).length with k | k
  · have := lim_len_lt k; omega
  · exact k

set_option maxRecDepth 100000 in
set_option maxHeartbeats 4000000 in
theorem idivmod_any (v1 v2 : Value) (x y : Int) (w : World) (h1 : IntAt w v1 x) (h2 : IntAt w v2 y) (l1 : (lim x.natAbs).length ≤ 1000000000) (l2 : (lim y.natAbs).length ≤ 1000000000) (hy : y ≠ 0) :
    Calls Try.prog 57 #[v1, v2] w fun e w' => ∃ q r, e = .returned (.tuple #[q, r, .int .i64 0]) ∧ IntAt w' q (x / y) ∧ IntAt w' r (x % y) ∧ Below w.heap.size w w' := by
  have Y2 := hide h2
  obtain ⟨b1, n1, a1, c1, rfl, hn1, rfl, h01⟩ := h1
  obtain ⟨b2, n2, a2, c2, rfl, hn2, rfl, h02⟩ := h2
  replace hy : 0 < n2 := by rcases Nat.eq_zero_or_pos n2 with h | h; exact absurd (by rw [h, sg_zero]) hy; exact h
  rw [sg_abs] at l1 l2
  have HE := hide (boxes4 w (.bool b1) (.slice a1 (lim n1).length c1) (.bool b2) (.slice a2 (lim n2).length c2) (.bool false) (.slice none 0 0) (.bool false) (.slice none 0 0) _ rfl)
  have HN1 := hide (hn1.below HE.out.2.2.2.2)
  have HN2 := hide (hn2.below HE.out.2.2.2.2)
  have LQ : Hid ((lim (sg (b1 != b2) (n1 / n2)).natAbs).length ≤ 1000000000) := hide (by rw [sg_abs]; exact Nat.le_trans (lim_len_mono (Nat.div_le_self _ _)) l1)
  have LR : Hid ((lim (sg b1 (n1 % n2)).natAbs).length ≤ 1000000000) := hide (by rw [sg_abs]; exact Nat.le_trans (lim_len_mono (Nat.mod_le _ _)) l1)
  clear hn1 h01 hn2 h02
  go_enter Try.func57, Try.ntmps57
  go_wp2_with fail
  refine (divmod_any _ _ (lim n1) (lim n2) _ HN1.out HN2.out l1 (by rw [val_lim]; exact hy)).mono ?_
  rintro e w1 ⟨lq, lr, rfl, nq, nr, hb⟩
  rw [val_lim, val_lim] at nq nr
  have HB := hide (HE.out.2.2.2.2.trans (hb.mono HE.out.2.2.2.2.size))
  have P0 := hide (HE.out.1.step hb)
  have P1 := hide (HE.out.2.1.step hb)
  have P2 := hide (HE.out.2.2.1.step hb)
  have P3 := hide (HE.out.2.2.2.1.step hb)
  have NQ := hide nq
  have NR := hide nr
  clear hb HE HN1 HN2 nq nr
  go_wp2_with fail
  go_cut [10, 11] from 26 (fun pq pr wx => ∃ gq gr sq mq kq cq sr mr kr cr, pq = .pointer (some ⟨gq, 0, none⟩) ∧ pr = .pointer (some ⟨gr, 0, none⟩) ∧ (w.heap.size < gq ∧ (w.heap.size + 1) < gq ∧ (w.heap.size + 1 + 1) < gq ∧ (w.heap.size + 1 + 1 + 1) < gq ∧ w.heap.size < gr ∧ (w.heap.size + 1) < gr ∧ (w.heap.size + 1 + 1) < gr ∧ (w.heap.size + 1 + 1 + 1) < gr ∧ gq ≠ gr) ∧ Below w.heap.size w wx ∧ Box wx w.heap.size (.bool b1) (.slice a1 (lim n1).length c1) ∧ Box wx (w.heap.size + 1) (.bool b2) (.slice a2 (lim n2).length c2) ∧ Box wx (w.heap.size + 1 + 1) (.bool false) (.slice none 0 0) ∧ Box wx (w.heap.size + 1 + 1 + 1) (.bool false) (.slice none 0 0) ∧ Box wx gq (.bool sq) (.slice mq kq cq) ∧ Box wx gr (.bool sr) (.slice mr kr cr) ∧ IntAt wx (.agg #[.bool sq, .slice mq kq cq]) (sg (b1 != b2) (n1 / n2)) ∧ IntAt wx (.agg #[.bool sr, .slice mr kr cr]) (sg b1 (n1 % n2)))
  case first =>
    refine wp_calm (fun w' => Below w.heap.size w w' ∧ Box w' w.heap.size (.bool b1) (.slice a1 (lim n1).length c1) ∧ Box w' (w.heap.size + 1) (.bool b2) (.slice a2 (lim n2).length c2) ∧ Box w' (w.heap.size + 1 + 1) (.bool false) (.slice none 0 0) ∧ Box w' (w.heap.size + 1 + 1 + 1) (.bool false) (.slice none 0 0) ∧ Nums w' lq (lim (n1 / n2)) ∧ Nums w' lr (lim (n1 % n2))) (fun _ => true) 15 #[false, false, false, false, false, false, false, false, false, false, false, false, false, false, false] (by kernel_rfl) rfl rfl ?_
    have HF := hide (And.intro (HB.out.drew) (And.intro (P0.out.drew) (And.intro (P1.out.drew) (And.intro (P2.out.drew) (And.intro (P3.out.drew) (And.intro (NQ.out.drew) (NR.out.drew)))))))
    generalize w1.drew = w1d at *
    refine Calm.take (i := 0) (v := ?_) (a' := ?_) (l' := #[true, false, false, false, false, false, false, false, false, false, false, false, false, false, false]) (d := some 26) rfl (by kernel_rfl) (by kernel_rfl) (by kernel_rfl) (by kernel_rfl) (fun _ _ _ h => h) HF.out rfl ?_ rfl rfl ?_ ?_
    rotate_left
    · intro w' hF; clear hF; go_simp; try rfl
    rotate_left
    · simp only [Act.put]; exact rfl
    refine Calm.take (i := 1) (v := ?_) (a' := ?_) (l' := #[true, true, false, false, false, false, false, false, false, false, false, false, false, false, false]) (d := some 27) rfl (by kernel_rfl) (by kernel_rfl) (by kernel_rfl) (by kernel_rfl) (fun _ _ _ h => h) HF.out rfl ?_ rfl rfl ?_ ?_
    rotate_left
    · intro w' hF; have f10 := hF.2.1.cell0; have f11 := hF.2.1.cell1; have f20 := hF.2.2.1.cell0; have f21 := hF.2.2.1.cell1; have f30 := hF.2.2.2.1.cell0; have f31 := hF.2.2.2.1.cell1; have f40 := hF.2.2.2.2.1.cell0; have f41 := hF.2.2.2.2.1.cell1; clear hF; go_simp; try rfl
    rotate_left
    · simp only [Act.put]; exact rfl
    refine Calm.take (i := 2) (v := ?_) (a' := ?_) (l' := #[true, true, true, false, false, false, false, false, false, false, false, false, false, false, false]) (d := some 28) rfl (by kernel_rfl) (by kernel_rfl) (by kernel_rfl) (by kernel_rfl) (fun _ _ _ h => h) HF.out rfl ?_ rfl rfl ?_ ?_
    rotate_left
    · intro w' hF; clear hF; go_simp; try rfl
    rotate_left
    · simp only [Act.put]; exact rfl
    refine Calm.take (i := 3) (v := ?_) (a' := ?_) (l' := #[true, true, true, true, false, false, false, false, false, false, false, false, false, false, false]) (d := some 29) rfl (by kernel_rfl) (by kernel_rfl) (by kernel_rfl) (by kernel_rfl) (fun _ _ _ h => h) HF.out rfl ?_ rfl rfl ?_ ?_
    rotate_left
    · intro w' hF; have f10 := hF.2.1.cell0; have f11 := hF.2.1.cell1; have f20 := hF.2.2.1.cell0; have f21 := hF.2.2.1.cell1; have f30 := hF.2.2.2.1.cell0; have f31 := hF.2.2.2.1.cell1; have f40 := hF.2.2.2.2.1.cell0; have f41 := hF.2.2.2.2.1.cell1; clear hF; go_simp; try rfl
    rotate_left
    · simp only [Act.put]; exact rfl
    refine Calm.take (i := 4) (v := ?_) (a' := ?_) (l' := #[true, true, true, true, true, false, false, false, false, false, false, false, false, false, false]) (d := some 30) rfl (by kernel_rfl) (by kernel_rfl) (by kernel_rfl) (by kernel_rfl) (fun _ _ _ h => h) HF.out rfl ?_ rfl rfl ?_ ?_
    rotate_left
    · intro w' hF; clear hF; go_simp; try rfl
    rotate_left
    · simp only [Act.put]; exact rfl
    refine Calm.take (i := 5) (v := ?_) (a' := ?_) (l' := #[true, true, true, true, true, true, false, false, false, false, false, false, false, false, false]) (d := some 31) rfl (by kernel_rfl) (by kernel_rfl) (by kernel_rfl) (by kernel_rfl) (fun _ _ _ h => h) HF.out rfl ?_ rfl rfl ?_ ?_
    rotate_left
    · intro w' hF; clear hF; go_simp; try rfl
    rotate_left
    · simp only [Act.put]; exact rfl
    refine Calm.take (i := 7) (v := ?_) (a' := ?_) (l' := #[true, true, true, true, true, true, false, true, false, false, false, false, false, false, false]) (d := some 33) rfl (by kernel_rfl) (by kernel_rfl) (by kernel_rfl) (by kernel_rfl) (fun _ _ _ h => h) HF.out rfl ?_ rfl rfl ?_ ?_
    rotate_left
    · intro w' hF; clear hF; go_simp; try rfl
    rotate_left
    · simp only [Act.put]; exact rfl
    refine Calm.take (i := 8) (v := ?_) (a' := ?_) (l' := #[true, true, true, true, true, true, false, true, true, false, false, false, false, false, false]) (d := some 34) rfl (by kernel_rfl) (by kernel_rfl) (by kernel_rfl) (by kernel_rfl) (fun _ _ _ h => h) HF.out rfl ?_ rfl rfl ?_ ?_
    rotate_left
    · intro w' hF; have f10 := hF.2.1.cell0; have f11 := hF.2.1.cell1; have f20 := hF.2.2.1.cell0; have f21 := hF.2.2.1.cell1; have f30 := hF.2.2.2.1.cell0; have f31 := hF.2.2.2.1.cell1; have f40 := hF.2.2.2.2.1.cell0; have f41 := hF.2.2.2.2.1.cell1; clear hF; go_simp; try rfl
    rotate_left
    · simp only [Act.put]; exact rfl
    refine Calm.take (i := 9) (v := ?_) (a' := ?_) (l' := #[true, true, true, true, true, true, false, true, true, true, false, false, false, false, false]) (d := some 35) rfl (by kernel_rfl) (by kernel_rfl) (by kernel_rfl) (by kernel_rfl) (fun _ _ _ h => h) HF.out rfl ?_ rfl rfl ?_ ?_
    rotate_left
    · intro w' hF; clear hF; go_simp; try rfl
    rotate_left
    · simp only [Act.put]; exact rfl
    refine Calm.three (i := 6) (j := 11) (m := 12) (l := #[true, true, true, true, true, true, true, true, true, true, false, false, false, false, false]) (l' := #[true, true, true, true, true, true, false, true, true, true, false, true, false, false, false]) (l'' := #[true, true, true, true, true, true, false, true, true, true, false, false, true, false, false]) (by kernel_rfl) rfl rfl rfl rfl rfl rfl rfl rfl rfl (fun K hK => ?_) (fun K hK => ?_) (fun K hK => ?_)
    · go_simp
      refine (made_any _ (n1 / n2) _ _ HF.out.2.2.2.2.2.1).mono ?_
      rintro e u1 ⟨v, rfl, n, hb⟩
      obtain ⟨sq, mq, kq, cq, rfl, n⟩ := n.cells
      have HF' := hide (And.intro (HF.out.1.trans ((hb).mono HF.out.1.size)) (And.intro (HF.out.2.1.step (hb)) (And.intro (HF.out.2.2.1.step (hb)) (And.intro (HF.out.2.2.2.1.step (hb)) (And.intro (HF.out.2.2.2.2.1.step (hb)) (And.intro (HF.out.2.2.2.2.2.1.below (hb)) (HF.out.2.2.2.2.2.2.below (hb))))))))
      have TQ := hide (n)
      refine hK _ _ (fun _ => HF'.out) ?_
      clear hK K HF hb n
      have HF := hide HF'.out
      clear HF'
      refine Calm.three (i := 10) (j := 11) (m := 12) (l := #[true, true, true, true, true, true, true, true, true, true, true, false, false, false, false]) (l' := #[true, true, true, true, true, true, true, true, true, true, false, true, false, false, false]) (l'' := #[true, true, true, true, true, true, true, true, true, true, false, false, true, false, false]) (by kernel_rfl) rfl rfl rfl rfl rfl rfl rfl rfl rfl (fun K hK => ?_) (fun K hK => ?_) (fun K hK => ?_)
      · go_simp
        refine (made_any _ (n1 % n2) _ _ HF.out.2.2.2.2.2.2).mono ?_
        rintro e u2 ⟨v, rfl, n, hb⟩
        obtain ⟨sr, mr, kr, cr, rfl, n⟩ := n.cells
        replace TQ := hide (TQ.out.below (hb))
        have HF' := hide (And.intro (HF.out.1.trans ((hb).mono HF.out.1.size)) (And.intro (HF.out.2.1.step (hb)) (And.intro (HF.out.2.2.1.step (hb)) (And.intro (HF.out.2.2.2.1.step (hb)) (And.intro (HF.out.2.2.2.2.1.step (hb)) (And.intro (HF.out.2.2.2.2.2.1.below (hb)) (HF.out.2.2.2.2.2.2.below (hb))))))))
        have TR := hide (n)
        refine hK _ _ (fun _ => HF'.out) ?_
        clear hK K HF hb n
        have HF := hide HF'.out
        clear HF'
        refine Calm.two (i := 11) (j := 12) (l := #[true, true, true, true, true, true, true, true, true, true, true, true, false, false, false]) (l' := #[true, true, true, true, true, true, true, true, true, true, true, false, true, false, false]) (by kernel_rfl) rfl rfl rfl rfl rfl rfl (fun K hK => ?_) (fun K hK => ?_)
        · go_simp
          have al := below_alloc u2 (.cells #[.bool false, .slice none 0 0] 28)
          have HF' := hide (And.intro (HF.out.1.trans ((al).mono HF.out.1.size)) (And.intro (HF.out.2.1.step (al)) (And.intro (HF.out.2.2.1.step (al)) (And.intro (HF.out.2.2.2.1.step (al)) (And.intro (HF.out.2.2.2.2.1.step (al)) (And.intro (HF.out.2.2.2.2.2.1.below (al)) (HF.out.2.2.2.2.2.2.below (al))))))))
          replace TQ := hide (TQ.out.below (al))
          replace TR := hide (TR.out.below (al))
          have BXq := hide (Box.new u2 (.bool false) (.slice none 0 0))
          have LT1q := hide (HF.out.2.1.lt)
          have LT2q := hide (HF.out.2.2.1.lt)
          have LT3q := hide (HF.out.2.2.2.1.lt)
          have LT4q := hide (HF.out.2.2.2.2.1.lt)
          have GEq := hide (HF.out.1.size)
          refine hK _ _ (fun _ => HF'.out) ?_
          clear hK K HF al
          have HF := hide HF'.out
          clear HF'
          generalize u2.alloc (.cells #[.bool false, .slice none 0 0] 28) = wzq at *
          generalize u2.heap.size = gq at *
          refine Calm.one (i := 12) (l' := #[true, true, true, true, true, true, true, true, true, true, true, true, true, false, false]) (by kernel_rfl) rfl rfl rfl fun K hK => ?_
          go_simp
          have al := below_alloc wzq (.cells #[.bool false, .slice none 0 0] 28)
          have HF' := hide (And.intro (HF.out.1.trans ((al).mono HF.out.1.size)) (And.intro (HF.out.2.1.step (al)) (And.intro (HF.out.2.2.1.step (al)) (And.intro (HF.out.2.2.2.1.step (al)) (And.intro (HF.out.2.2.2.2.1.step (al)) (And.intro (HF.out.2.2.2.2.2.1.below (al)) (HF.out.2.2.2.2.2.2.below (al))))))))
          replace TQ := hide (TQ.out.below (al))
          replace TR := hide (TR.out.below (al))
          have LTqr := hide (BXq.out.lt)
          replace BXq := hide (BXq.out.step al)
          have BXr := hide (Box.new wzq (.bool false) (.slice none 0 0))
          have LT1r := hide (HF.out.2.1.lt)
          have LT2r := hide (HF.out.2.2.1.lt)
          have LT3r := hide (HF.out.2.2.2.1.lt)
          have LT4r := hide (HF.out.2.2.2.2.1.lt)
          have GEr := hide (HF.out.1.size)
          refine hK _ _ (fun _ => HF'.out) ?_
          clear hK K HF al
          have HF := hide HF'.out
          clear HF'
          generalize wzq.alloc (.cells #[.bool false, .slice none 0 0] 28) = wzr at *
          generalize wzq.heap.size = gr at *
          refine Calm.one (i := 13) (l' := #[true, true, true, true, true, true, true, true, true, true, true, true, true, true, false]) (by kernel_rfl) rfl rfl rfl fun K hK => ?_
          have LTS := hide (And.intro LT1q.out (And.intro LT2q.out (And.intro LT3q.out (And.intro LT4q.out (And.intro LT1r.out (And.intro LT2r.out (And.intro LT3r.out (And.intro LT4r.out (show gq ≠ gr by first | exact Nat.ne_of_lt LTqr.out | exact Nat.ne_of_gt LTrq.out)))))))))
          have hc0 := BXq.out.cell0
          have hc1 := BXq.out.cell1
          have hf0 := BXq.out.free 0
          have hf1 := BXq.out.free 1
          go_simp
          have HF' := hide (And.intro (below_put HF.out.1 (show w.heap.size ≤ gq by have hx := LTS.out; omega) (.bool sq) (.slice mq kq cq)) (And.intro (HF.out.2.1.other (C := gq) (by have hx := LTS.out; omega) (.bool sq) (.slice mq kq cq)) (And.intro (HF.out.2.2.1.other (C := gq) (by have hx := LTS.out; omega) (.bool sq) (.slice mq kq cq)) (And.intro (HF.out.2.2.2.1.other (C := gq) (by have hx := LTS.out; omega) (.bool sq) (.slice mq kq cq)) (And.intro (HF.out.2.2.2.2.1.other (C := gq) (by have hx := LTS.out; omega) (.bool sq) (.slice mq kq cq)) (And.intro (BXq.out.keeps (by simp) (by simp) (.bool sq) (.slice mq kq cq) _ _ HF.out.2.2.2.2.2.1) (BXq.out.keeps (by simp) (by simp) (.bool sq) (.slice mq kq cq) _ _ HF.out.2.2.2.2.2.2)))))))
          replace TQ := hide (TQ.out.keep (BXq.out.keeps (by simp) (by simp) (.bool sq) (.slice mq kq cq)))
          replace TR := hide (TR.out.keep (BXq.out.keeps (by simp) (by simp) (.bool sq) (.slice mq kq cq)))
          replace BXr := hide (BXr.out.other (C := gq) (by have hx := LTS.out; omega) (.bool sq) (.slice mq kq cq))
          replace BXq := hide (BXq.out.put (.bool sq) (.slice mq kq cq))
          refine hK _ _ (fun _ => HF'.out) ?_
          clear hK K HF hc0 hc1 hf0 hf1
          have HF := hide HF'.out
          clear HF'
          generalize (wzr.setCell ⟨gq, 0, none⟩ (.bool sq)).setCell ⟨gq, 1, none⟩ (.slice mq kq cq) = ws1 at *
          refine Calm.one (i := 14) (l' := #[true, true, true, true, true, true, true, true, true, true, true, true, true, true, true]) (by kernel_rfl) rfl rfl rfl fun K hK => ?_
          have hc0 := BXr.out.cell0
          have hc1 := BXr.out.cell1
          have hf0 := BXr.out.free 0
          have hf1 := BXr.out.free 1
          go_simp
          have HF' := hide (And.intro (below_put HF.out.1 (show w.heap.size ≤ gr by have hx := LTS.out; omega) (.bool sr) (.slice mr kr cr)) (And.intro (HF.out.2.1.other (C := gr) (by have hx := LTS.out; omega) (.bool sr) (.slice mr kr cr)) (And.intro (HF.out.2.2.1.other (C := gr) (by have hx := LTS.out; omega) (.bool sr) (.slice mr kr cr)) (And.intro (HF.out.2.2.2.1.other (C := gr) (by have hx := LTS.out; omega) (.bool sr) (.slice mr kr cr)) (And.intro (HF.out.2.2.2.2.1.other (C := gr) (by have hx := LTS.out; omega) (.bool sr) (.slice mr kr cr)) (And.intro (BXr.out.keeps (by simp) (by simp) (.bool sr) (.slice mr kr cr) _ _ HF.out.2.2.2.2.2.1) (BXr.out.keeps (by simp) (by simp) (.bool sr) (.slice mr kr cr) _ _ HF.out.2.2.2.2.2.2)))))))
          replace TQ := hide (TQ.out.keep (BXr.out.keeps (by simp) (by simp) (.bool sr) (.slice mr kr cr)))
          replace TR := hide (TR.out.keep (BXr.out.keeps (by simp) (by simp) (.bool sr) (.slice mr kr cr)))
          replace BXq := hide (BXq.out.other (C := gr) (by have hx := LTS.out; omega) (.bool sr) (.slice mr kr cr))
          replace BXr := hide (BXr.out.put (.bool sr) (.slice mr kr cr))
          refine hK _ _ (fun _ => HF'.out) ?_
          clear hK K HF hc0 hc1 hf0 hf1
          have HF := hide HF'.out
          clear HF'
          generalize (ws1.setCell ⟨gr, 0, none⟩ (.bool sr)).setCell ⟨gr, 1, none⟩ (.slice mr kr cr) = ws2 at *
          refine Calm.done (by kernel_rfl) ?_
          go_wp2
          go_meet
          case rel => exact ⟨gq, gr, sq, mq, kq, cq, sr, mr, kr, cr, rfl, rfl, LTS.out, HF.out.1, HF.out.2.1, HF.out.2.2.1, HF.out.2.2.2.1, HF.out.2.2.2.2.1, BXq.out, BXr.out, TQ.out, TR.out⟩
        · go_simp
          have al := below_alloc u2 (.cells #[.bool false, .slice none 0 0] 28)
          have HF' := hide (And.intro (HF.out.1.trans ((al).mono HF.out.1.size)) (And.intro (HF.out.2.1.step (al)) (And.intro (HF.out.2.2.1.step (al)) (And.intro (HF.out.2.2.2.1.step (al)) (And.intro (HF.out.2.2.2.2.1.step (al)) (And.intro (HF.out.2.2.2.2.2.1.below (al)) (HF.out.2.2.2.2.2.2.below (al))))))))
          replace TQ := hide (TQ.out.below (al))
          replace TR := hide (TR.out.below (al))
          have BXr := hide (Box.new u2 (.bool false) (.slice none 0 0))
          have LT1r := hide (HF.out.2.1.lt)
          have LT2r := hide (HF.out.2.2.1.lt)
          have LT3r := hide (HF.out.2.2.2.1.lt)
          have LT4r := hide (HF.out.2.2.2.2.1.lt)
          have GEr := hide (HF.out.1.size)
          refine hK _ _ (fun _ => HF'.out) ?_
          clear hK K HF al
          have HF := hide HF'.out
          clear HF'
          generalize u2.alloc (.cells #[.bool false, .slice none 0 0] 28) = wzr at *
          generalize u2.heap.size = gr at *
          refine Calm.one (i := 11) (l' := #[true, true, true, true, true, true, true, true, true, true, true, true, true, false, false]) (by kernel_rfl) rfl rfl rfl fun K hK => ?_
          go_simp
          have al := below_alloc wzr (.cells #[.bool false, .slice none 0 0] 28)
          have HF' := hide (And.intro (HF.out.1.trans ((al).mono HF.out.1.size)) (And.intro (HF.out.2.1.step (al)) (And.intro (HF.out.2.2.1.step (al)) (And.intro (HF.out.2.2.2.1.step (al)) (And.intro (HF.out.2.2.2.2.1.step (al)) (And.intro (HF.out.2.2.2.2.2.1.below (al)) (HF.out.2.2.2.2.2.2.below (al))))))))
          replace TQ := hide (TQ.out.below (al))
          replace TR := hide (TR.out.below (al))
          have LTrq := hide (BXr.out.lt)
          replace BXr := hide (BXr.out.step al)
          have BXq := hide (Box.new wzr (.bool false) (.slice none 0 0))
          have LT1q := hide (HF.out.2.1.lt)
          have LT2q := hide (HF.out.2.2.1.lt)
          have LT3q := hide (HF.out.2.2.2.1.lt)
          have LT4q := hide (HF.out.2.2.2.2.1.lt)
          have GEq := hide (HF.out.1.size)
          refine hK _ _ (fun _ => HF'.out) ?_
          clear hK K HF al
          have HF := hide HF'.out
          clear HF'
          generalize wzr.alloc (.cells #[.bool false, .slice none 0 0] 28) = wzq at *
          generalize wzr.heap.size = gq at *
          refine Calm.one (i := 13) (l' := #[true, true, true, true, true, true, true, true, true, true, true, true, true, true, false]) (by kernel_rfl) rfl rfl rfl fun K hK => ?_
          have LTS := hide (And.intro LT1q.out (And.intro LT2q.out (And.intro LT3q.out (And.intro LT4q.out (And.intro LT1r.out (And.intro LT2r.out (And.intro LT3r.out (And.intro LT4r.out (show gq ≠ gr by first | exact Nat.ne_of_lt LTqr.out | exact Nat.ne_of_gt LTrq.out)))))))))
          have hc0 := BXq.out.cell0
          have hc1 := BXq.out.cell1
          have hf0 := BXq.out.free 0
          have hf1 := BXq.out.free 1
          go_simp
          have HF' := hide (And.intro (below_put HF.out.1 (show w.heap.size ≤ gq by have hx := LTS.out; omega) (.bool sq) (.slice mq kq cq)) (And.intro (HF.out.2.1.other (C := gq) (by have hx := LTS.out; omega) (.bool sq) (.slice mq kq cq)) (And.intro (HF.out.2.2.1.other (C := gq) (by have hx := LTS.out; omega) (.bool sq) (.slice mq kq cq)) (And.intro (HF.out.2.2.2.1.other (C := gq) (by have hx := LTS.out; omega) (.bool sq) (.slice mq kq cq)) (And.intro (HF.out.2.2.2.2.1.other (C := gq) (by have hx := LTS.out; omega) (.bool sq) (.slice mq kq cq)) (And.intro (BXq.out.keeps (by simp) (by simp) (.bool sq) (.slice mq kq cq) _ _ HF.out.2.2.2.2.2.1) (BXq.out.keeps (by simp) (by simp) (.bool sq) (.slice mq kq cq) _ _ HF.out.2.2.2.2.2.2)))))))
          replace TQ := hide (TQ.out.keep (BXq.out.keeps (by simp) (by simp) (.bool sq) (.slice mq kq cq)))
          replace TR := hide (TR.out.keep (BXq.out.keeps (by simp) (by simp) (.bool sq) (.slice mq kq cq)))
          replace BXr := hide (BXr.out.other (C := gq) (by have hx := LTS.out; omega) (.bool sq) (.slice mq kq cq))
          replace BXq := hide (BXq.out.put (.bool sq) (.slice mq kq cq))
          refine hK _ _ (fun _ => HF'.out) ?_
          clear hK K HF hc0 hc1 hf0 hf1
          have HF := hide HF'.out
          clear HF'
          generalize (wzq.setCell ⟨gq, 0, none⟩ (.bool sq)).setCell ⟨gq, 1, none⟩ (.slice mq kq cq) = ws1 at *
          refine Calm.one (i := 14) (l' := #[true, true, true, true, true, true, true, true, true, true, true, true, true, true, true]) (by kernel_rfl) rfl rfl rfl fun K hK => ?_
          have hc0 := BXr.out.cell0
          have hc1 := BXr.out.cell1
          have hf0 := BXr.out.free 0
          have hf1 := BXr.out.free 1
          go_simp
          have HF' := hide (And.intro (below_put HF.out.1 (show w.heap.size ≤ gr by have hx := LTS.out; omega) (.bool sr) (.slice mr kr cr)) (And.intro (HF.out.2.1.other (C := gr) (by have hx := LTS.out; omega) (.bool sr) (.slice mr kr cr)) (And.intro (HF.out.2.2.1.other (C := gr) (by have hx := LTS.out; omega) (.bool sr) (.slice mr kr cr)) (And.intro (HF.out.2.2.2.1.other (C := gr) (by have hx := LTS.out; omega) (.bool sr) (.slice mr kr cr)) (And.intro (HF.out.2.2.2.2.1.other (C := gr) (by have hx := LTS.out; omega) (.bool sr) (.slice mr kr cr)) (And.intro (BXr.out.keeps (by simp) (by simp) (.bool sr) (.slice mr kr cr) _ _ HF.out.2.2.2.2.2.1) (BXr.out.keeps (by simp) (by simp) (.bool sr) (.slice mr kr cr) _ _ HF.out.2.2.2.2.2.2)))))))
          replace TQ := hide (TQ.out.keep (BXr.out.keeps (by simp) (by simp) (.bool sr) (.slice mr kr cr)))
          replace TR := hide (TR.out.keep (BXr.out.keeps (by simp) (by simp) (.bool sr) (.slice mr kr cr)))
          replace BXq := hide (BXq.out.other (C := gr) (by have hx := LTS.out; omega) (.bool sr) (.slice mr kr cr))
          replace BXr := hide (BXr.out.put (.bool sr) (.slice mr kr cr))
          refine hK _ _ (fun _ => HF'.out) ?_
          clear hK K HF hc0 hc1 hf0 hf1
          have HF := hide HF'.out
          clear HF'
          generalize (ws1.setCell ⟨gr, 0, none⟩ (.bool sr)).setCell ⟨gr, 1, none⟩ (.slice mr kr cr) = ws2 at *
          refine Calm.done (by kernel_rfl) ?_
          go_wp2
          go_meet
          case rel => exact ⟨gq, gr, sq, mq, kq, cq, sr, mr, kr, cr, rfl, rfl, LTS.out, HF.out.1, HF.out.2.1, HF.out.2.2.1, HF.out.2.2.2.1, HF.out.2.2.2.2.1, BXq.out, BXr.out, TQ.out, TR.out⟩
      · go_simp
        have al := below_alloc u1 (.cells #[.bool false, .slice none 0 0] 28)
        have HF' := hide (And.intro (HF.out.1.trans ((al).mono HF.out.1.size)) (And.intro (HF.out.2.1.step (al)) (And.intro (HF.out.2.2.1.step (al)) (And.intro (HF.out.2.2.2.1.step (al)) (And.intro (HF.out.2.2.2.2.1.step (al)) (And.intro (HF.out.2.2.2.2.2.1.below (al)) (HF.out.2.2.2.2.2.2.below (al))))))))
        replace TQ := hide (TQ.out.below (al))
        have BXq := hide (Box.new u1 (.bool false) (.slice none 0 0))
        have LT1q := hide (HF.out.2.1.lt)
        have LT2q := hide (HF.out.2.2.1.lt)
        have LT3q := hide (HF.out.2.2.2.1.lt)
        have LT4q := hide (HF.out.2.2.2.2.1.lt)
        have GEq := hide (HF.out.1.size)
        refine hK _ _ (fun _ => HF'.out) ?_
        clear hK K HF al
        have HF := hide HF'.out
        clear HF'
        generalize u1.alloc (.cells #[.bool false, .slice none 0 0] 28) = wzq at *
        generalize u1.heap.size = gq at *
        refine Calm.two (i := 10) (j := 12) (l := #[true, true, true, true, true, true, true, true, true, true, true, true, false, false, false]) (l' := #[true, true, true, true, true, true, true, true, true, true, false, true, true, false, false]) (by kernel_rfl) rfl rfl rfl rfl rfl rfl (fun K hK => ?_) (fun K hK => ?_)
        · go_simp
          refine (made_any _ (n1 % n2) _ _ HF.out.2.2.2.2.2.2).mono ?_
          rintro e u2 ⟨v, rfl, n, hb⟩
          obtain ⟨sr, mr, kr, cr, rfl, n⟩ := n.cells
          replace TQ := hide (TQ.out.below (hb))
          replace BXq := hide (BXq.out.step hb)
          have HF' := hide (And.intro (HF.out.1.trans ((hb).mono HF.out.1.size)) (And.intro (HF.out.2.1.step (hb)) (And.intro (HF.out.2.2.1.step (hb)) (And.intro (HF.out.2.2.2.1.step (hb)) (And.intro (HF.out.2.2.2.2.1.step (hb)) (And.intro (HF.out.2.2.2.2.2.1.below (hb)) (HF.out.2.2.2.2.2.2.below (hb))))))))
          have TR := hide (n)
          refine hK _ _ (fun _ => HF'.out) ?_
          clear hK K HF hb n
          have HF := hide HF'.out
          clear HF'
          refine Calm.one (i := 12) (l' := #[true, true, true, true, true, true, true, true, true, true, true, true, true, false, false]) (by kernel_rfl) rfl rfl rfl fun K hK => ?_
          go_simp
          have al := below_alloc u2 (.cells #[.bool false, .slice none 0 0] 28)
          have HF' := hide (And.intro (HF.out.1.trans ((al).mono HF.out.1.size)) (And.intro (HF.out.2.1.step (al)) (And.intro (HF.out.2.2.1.step (al)) (And.intro (HF.out.2.2.2.1.step (al)) (And.intro (HF.out.2.2.2.2.1.step (al)) (And.intro (HF.out.2.2.2.2.2.1.below (al)) (HF.out.2.2.2.2.2.2.below (al))))))))
          replace TQ := hide (TQ.out.below (al))
          replace TR := hide (TR.out.below (al))
          have LTqr := hide (BXq.out.lt)
          replace BXq := hide (BXq.out.step al)
          have BXr := hide (Box.new u2 (.bool false) (.slice none 0 0))
          have LT1r := hide (HF.out.2.1.lt)
          have LT2r := hide (HF.out.2.2.1.lt)
          have LT3r := hide (HF.out.2.2.2.1.lt)
          have LT4r := hide (HF.out.2.2.2.2.1.lt)
          have GEr := hide (HF.out.1.size)
          refine hK _ _ (fun _ => HF'.out) ?_
          clear hK K HF al
          have HF := hide HF'.out
          clear HF'
          generalize u2.alloc (.cells #[.bool false, .slice none 0 0] 28) = wzr at *
          generalize u2.heap.size = gr at *
          refine Calm.one (i := 13) (l' := #[true, true, true, true, true, true, true, true, true, true, true, true, true, true, false]) (by kernel_rfl) rfl rfl rfl fun K hK => ?_
          have LTS := hide (And.intro LT1q.out (And.intro LT2q.out (And.intro LT3q.out (And.intro LT4q.out (And.intro LT1r.out (And.intro LT2r.out (And.intro LT3r.out (And.intro LT4r.out (show gq ≠ gr by first | exact Nat.ne_of_lt LTqr.out | exact Nat.ne_of_gt LTrq.out)))))))))
          have hc0 := BXq.out.cell0
          have hc1 := BXq.out.cell1
          have hf0 := BXq.out.free 0
          have hf1 := BXq.out.free 1
          go_simp
          have HF' := hide (And.intro (below_put HF.out.1 (show w.heap.size ≤ gq by have hx := LTS.out; omega) (.bool sq) (.slice mq kq cq)) (And.intro (HF.out.2.1.other (C := gq) (by have hx := LTS.out; omega) (.bool sq) (.slice mq kq cq)) (And.intro (HF.out.2.2.1.other (C := gq) (by have hx := LTS.out; omega) (.bool sq) (.slice mq kq cq)) (And.intro (HF.out.2.2.2.1.other (C := gq) (by have hx := LTS.out; omega) (.bool sq) (.slice mq kq cq)) (And.intro (HF.out.2.2.2.2.1.other (C := gq) (by have hx := LTS.out; omega) (.bool sq) (.slice mq kq cq)) (And.intro (BXq.out.keeps (by simp) (by simp) (.bool sq) (.slice mq kq cq) _ _ HF.out.2.2.2.2.2.1) (BXq.out.keeps (by simp) (by simp) (.bool sq) (.slice mq kq cq) _ _ HF.out.2.2.2.2.2.2)))))))
          replace TQ := hide (TQ.out.keep (BXq.out.keeps (by simp) (by simp) (.bool sq) (.slice mq kq cq)))
          replace TR := hide (TR.out.keep (BXq.out.keeps (by simp) (by simp) (.bool sq) (.slice mq kq cq)))
          replace BXr := hide (BXr.out.other (C := gq) (by have hx := LTS.out; omega) (.bool sq) (.slice mq kq cq))
          replace BXq := hide (BXq.out.put (.bool sq) (.slice mq kq cq))
          refine hK _ _ (fun _ => HF'.out) ?_
          clear hK K HF hc0 hc1 hf0 hf1
          have HF := hide HF'.out
          clear HF'
          generalize (wzr.setCell ⟨gq, 0, none⟩ (.bool sq)).setCell ⟨gq, 1, none⟩ (.slice mq kq cq) = ws1 at *
          refine Calm.one (i := 14) (l' := #[true, true, true, true, true, true, true, true, true, true, true, true, true, true, true]) (by kernel_rfl) rfl rfl rfl fun K hK => ?_
          have hc0 := BXr.out.cell0
          have hc1 := BXr.out.cell1
          have hf0 := BXr.out.free 0
          have hf1 := BXr.out.free 1
          go_simp
          have HF' := hide (And.intro (below_put HF.out.1 (show w.heap.size ≤ gr by have hx := LTS.out; omega) (.bool sr) (.slice mr kr cr)) (And.intro (HF.out.2.1.other (C := gr) (by have hx := LTS.out; omega) (.bool sr) (.slice mr kr cr)) (And.intro (HF.out.2.2.1.other (C := gr) (by have hx := LTS.out; omega) (.bool sr) (.slice mr kr cr)) (And.intro (HF.out.2.2.2.1.other (C := gr) (by have hx := LTS.out; omega) (.bool sr) (.slice mr kr cr)) (And.intro (HF.out.2.2.2.2.1.other (C := gr) (by have hx := LTS.out; omega) (.bool sr) (.slice mr kr cr)) (And.intro (BXr.out.keeps (by simp) (by simp) (.bool sr) (.slice mr kr cr) _ _ HF.out.2.2.2.2.2.1) (BXr.out.keeps (by simp) (by simp) (.bool sr) (.slice mr kr cr) _ _ HF.out.2.2.2.2.2.2)))))))
          replace TQ := hide (TQ.out.keep (BXr.out.keeps (by simp) (by simp) (.bool sr) (.slice mr kr cr)))
          replace TR := hide (TR.out.keep (BXr.out.keeps (by simp) (by simp) (.bool sr) (.slice mr kr cr)))
          replace BXq := hide (BXq.out.other (C := gr) (by have hx := LTS.out; omega) (.bool sr) (.slice mr kr cr))
          replace BXr := hide (BXr.out.put (.bool sr) (.slice mr kr cr))
          refine hK _ _ (fun _ => HF'.out) ?_
          clear hK K HF hc0 hc1 hf0 hf1
          have HF := hide HF'.out
          clear HF'
          generalize (ws1.setCell ⟨gr, 0, none⟩ (.bool sr)).setCell ⟨gr, 1, none⟩ (.slice mr kr cr) = ws2 at *
          refine Calm.done (by kernel_rfl) ?_
          go_wp2
          go_meet
          case rel => exact ⟨gq, gr, sq, mq, kq, cq, sr, mr, kr, cr, rfl, rfl, LTS.out, HF.out.1, HF.out.2.1, HF.out.2.2.1, HF.out.2.2.2.1, HF.out.2.2.2.2.1, BXq.out, BXr.out, TQ.out, TR.out⟩
        · go_simp
          have al := below_alloc wzq (.cells #[.bool false, .slice none 0 0] 28)
          have HF' := hide (And.intro (HF.out.1.trans ((al).mono HF.out.1.size)) (And.intro (HF.out.2.1.step (al)) (And.intro (HF.out.2.2.1.step (al)) (And.intro (HF.out.2.2.2.1.step (al)) (And.intro (HF.out.2.2.2.2.1.step (al)) (And.intro (HF.out.2.2.2.2.2.1.below (al)) (HF.out.2.2.2.2.2.2.below (al))))))))
          replace TQ := hide (TQ.out.below (al))
          have LTqr := hide (BXq.out.lt)
          replace BXq := hide (BXq.out.step al)
          have BXr := hide (Box.new wzq (.bool false) (.slice none 0 0))
          have LT1r := hide (HF.out.2.1.lt)
          have LT2r := hide (HF.out.2.2.1.lt)
          have LT3r := hide (HF.out.2.2.2.1.lt)
          have LT4r := hide (HF.out.2.2.2.2.1.lt)
          have GEr := hide (HF.out.1.size)
          refine hK _ _ (fun _ => HF'.out) ?_
          clear hK K HF al
          have HF := hide HF'.out
          clear HF'
          generalize wzq.alloc (.cells #[.bool false, .slice none 0 0] 28) = wzr at *
          generalize wzq.heap.size = gr at *
          refine Calm.one (i := 10) (l' := #[true, true, true, true, true, true, true, true, true, true, true, true, true, false, false]) (by kernel_rfl) rfl rfl rfl fun K hK => ?_
          go_simp
          refine (made_any _ (n1 % n2) _ _ HF.out.2.2.2.2.2.2).mono ?_
          rintro e u2 ⟨v, rfl, n, hb⟩
          obtain ⟨sr, mr, kr, cr, rfl, n⟩ := n.cells
          replace TQ := hide (TQ.out.below (hb))
          replace BXq := hide (BXq.out.step hb)
          replace BXr := hide (BXr.out.step hb)
          have HF' := hide (And.intro (HF.out.1.trans ((hb).mono HF.out.1.size)) (And.intro (HF.out.2.1.step (hb)) (And.intro (HF.out.2.2.1.step (hb)) (And.intro (HF.out.2.2.2.1.step (hb)) (And.intro (HF.out.2.2.2.2.1.step (hb)) (And.intro (HF.out.2.2.2.2.2.1.below (hb)) (HF.out.2.2.2.2.2.2.below (hb))))))))
          have TR := hide (n)
          refine hK _ _ (fun _ => HF'.out) ?_
          clear hK K HF hb n
          have HF := hide HF'.out
          clear HF'
          refine Calm.one (i := 13) (l' := #[true, true, true, true, true, true, true, true, true, true, true, true, true, true, false]) (by kernel_rfl) rfl rfl rfl fun K hK => ?_
          have LTS := hide (And.intro LT1q.out (And.intro LT2q.out (And.intro LT3q.out (And.intro LT4q.out (And.intro LT1r.out (And.intro LT2r.out (And.intro LT3r.out (And.intro LT4r.out (show gq ≠ gr by first | exact Nat.ne_of_lt LTqr.out | exact Nat.ne_of_gt LTrq.out)))))))))
          have hc0 := BXq.out.cell0
          have hc1 := BXq.out.cell1
          have hf0 := BXq.out.free 0
          have hf1 := BXq.out.free 1
          go_simp
          have HF' := hide (And.intro (below_put HF.out.1 (show w.heap.size ≤ gq by have hx := LTS.out; omega) (.bool sq) (.slice mq kq cq)) (And.intro (HF.out.2.1.other (C := gq) (by have hx := LTS.out; omega) (.bool sq) (.slice mq kq cq)) (And.intro (HF.out.2.2.1.other (C := gq) (by have hx := LTS.out; omega) (.bool sq) (.slice mq kq cq)) (And.intro (HF.out.2.2.2.1.other (C := gq) (by have hx := LTS.out; omega) (.bool sq) (.slice mq kq cq)) (And.intro (HF.out.2.2.2.2.1.other (C := gq) (by have hx := LTS.out; omega) (.bool sq) (.slice mq kq cq)) (And.intro (BXq.out.keeps (by simp) (by simp) (.bool sq) (.slice mq kq cq) _ _ HF.out.2.2.2.2.2.1) (BXq.out.keeps (by simp) (by simp) (.bool sq) (.slice mq kq cq) _ _ HF.out.2.2.2.2.2.2)))))))
          replace TQ := hide (TQ.out.keep (BXq.out.keeps (by simp) (by simp) (.bool sq) (.slice mq kq cq)))
          replace TR := hide (TR.out.keep (BXq.out.keeps (by simp) (by simp) (.bool sq) (.slice mq kq cq)))
          replace BXr := hide (BXr.out.other (C := gq) (by have hx := LTS.out; omega) (.bool sq) (.slice mq kq cq))
          replace BXq := hide (BXq.out.put (.bool sq) (.slice mq kq cq))
          refine hK _ _ (fun _ => HF'.out) ?_
          clear hK K HF hc0 hc1 hf0 hf1
          have HF := hide HF'.out
          clear HF'
          generalize (u2.setCell ⟨gq, 0, none⟩ (.bool sq)).setCell ⟨gq, 1, none⟩ (.slice mq kq cq) = ws1 at *
          refine Calm.one (i := 14) (l' := #[true, true, true, true, true, true, true, true, true, true, true, true, true, true, true]) (by kernel_rfl) rfl rfl rfl fun K hK => ?_
          have hc0 := BXr.out.cell0
          have hc1 := BXr.out.cell1
          have hf0 := BXr.out.free 0
          have hf1 := BXr.out.free 1
          go_simp
          have HF' := hide (And.intro (below_put HF.out.1 (show w.heap.size ≤ gr by have hx := LTS.out; omega) (.bool sr) (.slice mr kr cr)) (And.intro (HF.out.2.1.other (C := gr) (by have hx := LTS.out; omega) (.bool sr) (.slice mr kr cr)) (And.intro (HF.out.2.2.1.other (C := gr) (by have hx := LTS.out; omega) (.bool sr) (.slice mr kr cr)) (And.intro (HF.out.2.2.2.1.other (C := gr) (by have hx := LTS.out; omega) (.bool sr) (.slice mr kr cr)) (And.intro (HF.out.2.2.2.2.1.other (C := gr) (by have hx := LTS.out; omega) (.bool sr) (.slice mr kr cr)) (And.intro (BXr.out.keeps (by simp) (by simp) (.bool sr) (.slice mr kr cr) _ _ HF.out.2.2.2.2.2.1) (BXr.out.keeps (by simp) (by simp) (.bool sr) (.slice mr kr cr) _ _ HF.out.2.2.2.2.2.2)))))))
          replace TQ := hide (TQ.out.keep (BXr.out.keeps (by simp) (by simp) (.bool sr) (.slice mr kr cr)))
          replace TR := hide (TR.out.keep (BXr.out.keeps (by simp) (by simp) (.bool sr) (.slice mr kr cr)))
          replace BXq := hide (BXq.out.other (C := gr) (by have hx := LTS.out; omega) (.bool sr) (.slice mr kr cr))
          replace BXr := hide (BXr.out.put (.bool sr) (.slice mr kr cr))
          refine hK _ _ (fun _ => HF'.out) ?_
          clear hK K HF hc0 hc1 hf0 hf1
          have HF := hide HF'.out
          clear HF'
          generalize (ws1.setCell ⟨gr, 0, none⟩ (.bool sr)).setCell ⟨gr, 1, none⟩ (.slice mr kr cr) = ws2 at *
          refine Calm.done (by kernel_rfl) ?_
          go_wp2
          go_meet
          case rel => exact ⟨gq, gr, sq, mq, kq, cq, sr, mr, kr, cr, rfl, rfl, LTS.out, HF.out.1, HF.out.2.1, HF.out.2.2.1, HF.out.2.2.2.1, HF.out.2.2.2.2.1, BXq.out, BXr.out, TQ.out, TR.out⟩
      · go_simp
        have al := below_alloc u1 (.cells #[.bool false, .slice none 0 0] 28)
        have HF' := hide (And.intro (HF.out.1.trans ((al).mono HF.out.1.size)) (And.intro (HF.out.2.1.step (al)) (And.intro (HF.out.2.2.1.step (al)) (And.intro (HF.out.2.2.2.1.step (al)) (And.intro (HF.out.2.2.2.2.1.step (al)) (And.intro (HF.out.2.2.2.2.2.1.below (al)) (HF.out.2.2.2.2.2.2.below (al))))))))
        replace TQ := hide (TQ.out.below (al))
        have BXr := hide (Box.new u1 (.bool false) (.slice none 0 0))
        have LT1r := hide (HF.out.2.1.lt)
        have LT2r := hide (HF.out.2.2.1.lt)
        have LT3r := hide (HF.out.2.2.2.1.lt)
        have LT4r := hide (HF.out.2.2.2.2.1.lt)
        have GEr := hide (HF.out.1.size)
        refine hK _ _ (fun _ => HF'.out) ?_
        clear hK K HF al
        have HF := hide HF'.out
        clear HF'
        generalize u1.alloc (.cells #[.bool false, .slice none 0 0] 28) = wzr at *
        generalize u1.heap.size = gr at *
        refine Calm.two (i := 10) (j := 11) (l := #[true, true, true, true, true, true, true, true, true, true, true, false, true, false, false]) (l' := #[true, true, true, true, true, true, true, true, true, true, false, true, true, false, false]) (by kernel_rfl) rfl rfl rfl rfl rfl rfl (fun K hK => ?_) (fun K hK => ?_)
        · go_simp
          refine (made_any _ (n1 % n2) _ _ HF.out.2.2.2.2.2.2).mono ?_
          rintro e u2 ⟨v, rfl, n, hb⟩
          obtain ⟨sr, mr, kr, cr, rfl, n⟩ := n.cells
          replace TQ := hide (TQ.out.below (hb))
          replace BXr := hide (BXr.out.step hb)
          have HF' := hide (And.intro (HF.out.1.trans ((hb).mono HF.out.1.size)) (And.intro (HF.out.2.1.step (hb)) (And.intro (HF.out.2.2.1.step (hb)) (And.intro (HF.out.2.2.2.1.step (hb)) (And.intro (HF.out.2.2.2.2.1.step (hb)) (And.intro (HF.out.2.2.2.2.2.1.below (hb)) (HF.out.2.2.2.2.2.2.below (hb))))))))
          have TR := hide (n)
          refine hK _ _ (fun _ => HF'.out) ?_
          clear hK K HF hb n
          have HF := hide HF'.out
          clear HF'
          refine Calm.one (i := 11) (l' := #[true, true, true, true, true, true, true, true, true, true, true, true, true, false, false]) (by kernel_rfl) rfl rfl rfl fun K hK => ?_
          go_simp
          have al := below_alloc u2 (.cells #[.bool false, .slice none 0 0] 28)
          have HF' := hide (And.intro (HF.out.1.trans ((al).mono HF.out.1.size)) (And.intro (HF.out.2.1.step (al)) (And.intro (HF.out.2.2.1.step (al)) (And.intro (HF.out.2.2.2.1.step (al)) (And.intro (HF.out.2.2.2.2.1.step (al)) (And.intro (HF.out.2.2.2.2.2.1.below (al)) (HF.out.2.2.2.2.2.2.below (al))))))))
          replace TQ := hide (TQ.out.below (al))
          replace TR := hide (TR.out.below (al))
          have LTrq := hide (BXr.out.lt)
          replace BXr := hide (BXr.out.step al)
          have BXq := hide (Box.new u2 (.bool false) (.slice none 0 0))
          have LT1q := hide (HF.out.2.1.lt)
          have LT2q := hide (HF.out.2.2.1.lt)
          have LT3q := hide (HF.out.2.2.2.1.lt)
          have LT4q := hide (HF.out.2.2.2.2.1.lt)
          have GEq := hide (HF.out.1.size)
          refine hK _ _ (fun _ => HF'.out) ?_
          clear hK K HF al
          have HF := hide HF'.out
          clear HF'
          generalize u2.alloc (.cells #[.bool false, .slice none 0 0] 28) = wzq at *
          generalize u2.heap.size = gq at *
          refine Calm.one (i := 13) (l' := #[true, true, true, true, true, true, true, true, true, true, true, true, true, true, false]) (by kernel_rfl) rfl rfl rfl fun K hK => ?_
          have LTS := hide (And.intro LT1q.out (And.intro LT2q.out (And.intro LT3q.out (And.intro LT4q.out (And.intro LT1r.out (And.intro LT2r.out (And.intro LT3r.out (And.intro LT4r.out (show gq ≠ gr by first | exact Nat.ne_of_lt LTqr.out | exact Nat.ne_of_gt LTrq.out)))))))))
          have hc0 := BXq.out.cell0
          have hc1 := BXq.out.cell1
          have hf0 := BXq.out.free 0
          have hf1 := BXq.out.free 1
          go_simp
          have HF' := hide (And.intro (below_put HF.out.1 (show w.heap.size ≤ gq by have hx := LTS.out; omega) (.bool sq) (.slice mq kq cq)) (And.intro (HF.out.2.1.other (C := gq) (by have hx := LTS.out; omega) (.bool sq) (.slice mq kq cq)) (And.intro (HF.out.2.2.1.other (C := gq) (by have hx := LTS.out; omega) (.bool sq) (.slice mq kq cq)) (And.intro (HF.out.2.2.2.1.other (C := gq) (by have hx := LTS.out; omega) (.bool sq) (.slice mq kq cq)) (And.intro (HF.out.2.2.2.2.1.other (C := gq) (by have hx := LTS.out; omega) (.bool sq) (.slice mq kq cq)) (And.intro (BXq.out.keeps (by simp) (by simp) (.bool sq) (.slice mq kq cq) _ _ HF.out.2.2.2.2.2.1) (BXq.out.keeps (by simp) (by simp) (.bool sq) (.slice mq kq cq) _ _ HF.out.2.2.2.2.2.2)))))))
          replace TQ := hide (TQ.out.keep (BXq.out.keeps (by simp) (by simp) (.bool sq) (.slice mq kq cq)))
          replace TR := hide (TR.out.keep (BXq.out.keeps (by simp) (by simp) (.bool sq) (.slice mq kq cq)))
          replace BXr := hide (BXr.out.other (C := gq) (by have hx := LTS.out; omega) (.bool sq) (.slice mq kq cq))
          replace BXq := hide (BXq.out.put (.bool sq) (.slice mq kq cq))
          refine hK _ _ (fun _ => HF'.out) ?_
          clear hK K HF hc0 hc1 hf0 hf1
          have HF := hide HF'.out
          clear HF'
          generalize (wzq.setCell ⟨gq, 0, none⟩ (.bool sq)).setCell ⟨gq, 1, none⟩ (.slice mq kq cq) = ws1 at *
          refine Calm.one (i := 14) (l' := #[true, true, true, true, true, true, true, true, true, true, true, true, true, true, true]) (by kernel_rfl) rfl rfl rfl fun K hK => ?_
          have hc0 := BXr.out.cell0
          have hc1 := BXr.out.cell1
          have hf0 := BXr.out.free 0
          have hf1 := BXr.out.free 1
          go_simp
          have HF' := hide (And.intro (below_put HF.out.1 (show w.heap.size ≤ gr by have hx := LTS.out; omega) (.bool sr) (.slice mr kr cr)) (And.intro (HF.out.2.1.other (C := gr) (by have hx := LTS.out; omega) (.bool sr) (.slice mr kr cr)) (And.intro (HF.out.2.2.1.other (C := gr) (by have hx := LTS.out; omega) (.bool sr) (.slice mr kr cr)) (And.intro (HF.out.2.2.2.1.other (C := gr) (by have hx := LTS.out; omega) (.bool sr) (.slice mr kr cr)) (And.intro (HF.out.2.2.2.2.1.other (C := gr) (by have hx := LTS.out; omega) (.bool sr) (.slice mr kr cr)) (And.intro (BXr.out.keeps (by simp) (by simp) (.bool sr) (.slice mr kr cr) _ _ HF.out.2.2.2.2.2.1) (BXr.out.keeps (by simp) (by simp) (.bool sr) (.slice mr kr cr) _ _ HF.out.2.2.2.2.2.2)))))))
          replace TQ := hide (TQ.out.keep (BXr.out.keeps (by simp) (by simp) (.bool sr) (.slice mr kr cr)))
          replace TR := hide (TR.out.keep (BXr.out.keeps (by simp) (by simp) (.bool sr) (.slice mr kr cr)))
          replace BXq := hide (BXq.out.other (C := gr) (by have hx := LTS.out; omega) (.bool sr) (.slice mr kr cr))
          replace BXr := hide (BXr.out.put (.bool sr) (.slice mr kr cr))
          refine hK _ _ (fun _ => HF'.out) ?_
          clear hK K HF hc0 hc1 hf0 hf1
          have HF := hide HF'.out
          clear HF'
          generalize (ws1.setCell ⟨gr, 0, none⟩ (.bool sr)).setCell ⟨gr, 1, none⟩ (.slice mr kr cr) = ws2 at *
          refine Calm.done (by kernel_rfl) ?_
          go_wp2
          go_meet
          case rel => exact ⟨gq, gr, sq, mq, kq, cq, sr, mr, kr, cr, rfl, rfl, LTS.out, HF.out.1, HF.out.2.1, HF.out.2.2.1, HF.out.2.2.2.1, HF.out.2.2.2.2.1, BXq.out, BXr.out, TQ.out, TR.out⟩
        · go_simp
          have al := below_alloc wzr (.cells #[.bool false, .slice none 0 0] 28)
          have HF' := hide (And.intro (HF.out.1.trans ((al).mono HF.out.1.size)) (And.intro (HF.out.2.1.step (al)) (And.intro (HF.out.2.2.1.step (al)) (And.intro (HF.out.2.2.2.1.step (al)) (And.intro (HF.out.2.2.2.2.1.step (al)) (And.intro (HF.out.2.2.2.2.2.1.below (al)) (HF.out.2.2.2.2.2.2.below (al))))))))
          replace TQ := hide (TQ.out.below (al))
          have LTrq := hide (BXr.out.lt)
          replace BXr := hide (BXr.out.step al)
          have BXq := hide (Box.new wzr (.bool false) (.slice none 0 0))
          have LT1q := hide (HF.out.2.1.lt)
          have LT2q := hide (HF.out.2.2.1.lt)
          have LT3q := hide (HF.out.2.2.2.1.lt)
          have LT4q := hide (HF.out.2.2.2.2.1.lt)
          have GEq := hide (HF.out.1.size)
          refine hK _ _ (fun _ => HF'.out) ?_
          clear hK K HF al
          have HF := hide HF'.out
          clear HF'
          generalize wzr.alloc (.cells #[.bool false, .slice none 0 0] 28) = wzq at *
          generalize wzr.heap.size = gq at *
          refine Calm.one (i := 10) (l' := #[true, true, true, true, true, true, true, true, true, true, true, true, true, false, false]) (by kernel_rfl) rfl rfl rfl fun K hK => ?_
          go_simp
          refine (made_any _ (n1 % n2) _ _ HF.out.2.2.2.2.2.2).mono ?_
          rintro e u2 ⟨v, rfl, n, hb⟩
          obtain ⟨sr, mr, kr, cr, rfl, n⟩ := n.cells
          replace TQ := hide (TQ.out.below (hb))
          replace BXr := hide (BXr.out.step hb)
          replace BXq := hide (BXq.out.step hb)
          have HF' := hide (And.intro (HF.out.1.trans ((hb).mono HF.out.1.size)) (And.intro (HF.out.2.1.step (hb)) (And.intro (HF.out.2.2.1.step (hb)) (And.intro (HF.out.2.2.2.1.step (hb)) (And.intro (HF.out.2.2.2.2.1.step (hb)) (And.intro (HF.out.2.2.2.2.2.1.below (hb)) (HF.out.2.2.2.2.2.2.below (hb))))))))
          have TR := hide (n)
          refine hK _ _ (fun _ => HF'.out) ?_
          clear hK K HF hb n
          have HF := hide HF'.out
          clear HF'
          refine Calm.one (i := 13) (l' := #[true, true, true, true, true, true, true, true, true, true, true, true, true, true, false]) (by kernel_rfl) rfl rfl rfl fun K hK => ?_
          have LTS := hide (And.intro LT1q.out (And.intro LT2q.out (And.intro LT3q.out (And.intro LT4q.out (And.intro LT1r.out (And.intro LT2r.out (And.intro LT3r.out (And.intro LT4r.out (show gq ≠ gr by first | exact Nat.ne_of_lt LTqr.out | exact Nat.ne_of_gt LTrq.out)))))))))
          have hc0 := BXq.out.cell0
          have hc1 := BXq.out.cell1
          have hf0 := BXq.out.free 0
          have hf1 := BXq.out.free 1
          go_simp
          have HF' := hide (And.intro (below_put HF.out.1 (show w.heap.size ≤ gq by have hx := LTS.out; omega) (.bool sq) (.slice mq kq cq)) (And.intro (HF.out.2.1.other (C := gq) (by have hx := LTS.out; omega) (.bool sq) (.slice mq kq cq)) (And.intro (HF.out.2.2.1.other (C := gq) (by have hx := LTS.out; omega) (.bool sq) (.slice mq kq cq)) (And.intro (HF.out.2.2.2.1.other (C := gq) (by have hx := LTS.out; omega) (.bool sq) (.slice mq kq cq)) (And.intro (HF.out.2.2.2.2.1.other (C := gq) (by have hx := LTS.out; omega) (.bool sq) (.slice mq kq cq)) (And.intro (BXq.out.keeps (by simp) (by simp) (.bool sq) (.slice mq kq cq) _ _ HF.out.2.2.2.2.2.1) (BXq.out.keeps (by simp) (by simp) (.bool sq) (.slice mq kq cq) _ _ HF.out.2.2.2.2.2.2)))))))
          replace TQ := hide (TQ.out.keep (BXq.out.keeps (by simp) (by simp) (.bool sq) (.slice mq kq cq)))
          replace TR := hide (TR.out.keep (BXq.out.keeps (by simp) (by simp) (.bool sq) (.slice mq kq cq)))
          replace BXr := hide (BXr.out.other (C := gq) (by have hx := LTS.out; omega) (.bool sq) (.slice mq kq cq))
          replace BXq := hide (BXq.out.put (.bool sq) (.slice mq kq cq))
          refine hK _ _ (fun _ => HF'.out) ?_
          clear hK K HF hc0 hc1 hf0 hf1
          have HF := hide HF'.out
          clear HF'
          generalize (u2.setCell ⟨gq, 0, none⟩ (.bool sq)).setCell ⟨gq, 1, none⟩ (.slice mq kq cq) = ws1 at *
          refine Calm.one (i := 14) (l' := #[true, true, true, true, true, true, true, true, true, true, true, true, true, true, true]) (by kernel_rfl) rfl rfl rfl fun K hK => ?_
          have hc0 := BXr.out.cell0
          have hc1 := BXr.out.cell1
          have hf0 := BXr.out.free 0
          have hf1 := BXr.out.free 1
          go_simp
          have HF' := hide (And.intro (below_put HF.out.1 (show w.heap.size ≤ gr by have hx := LTS.out; omega) (.bool sr) (.slice mr kr cr)) (And.intro (HF.out.2.1.other (C := gr) (by have hx := LTS.out; omega) (.bool sr) (.slice mr kr cr)) (And.intro (HF.out.2.2.1.other (C := gr) (by have hx := LTS.out; omega) (.bool sr) (.slice mr kr cr)) (And.intro (HF.out.2.2.2.1.other (C := gr) (by have hx := LTS.out; omega) (.bool sr) (.slice mr kr cr)) (And.intro (HF.out.2.2.2.2.1.other (C := gr) (by have hx := LTS.out; omega) (.bool sr) (.slice mr kr cr)) (And.intro (BXr.out.keeps (by simp) (by simp) (.bool sr) (.slice mr kr cr) _ _ HF.out.2.2.2.2.2.1) (BXr.out.keeps (by simp) (by simp) (.bool sr) (.slice mr kr cr) _ _ HF.out.2.2.2.2.2.2)))))))
          replace TQ := hide (TQ.out.keep (BXr.out.keeps (by simp) (by simp) (.bool sr) (.slice mr kr cr)))
          replace TR := hide (TR.out.keep (BXr.out.keeps (by simp) (by simp) (.bool sr) (.slice mr kr cr)))
          replace BXq := hide (BXq.out.other (C := gr) (by have hx := LTS.out; omega) (.bool sr) (.slice mr kr cr))
          replace BXr := hide (BXr.out.put (.bool sr) (.slice mr kr cr))
          refine hK _ _ (fun _ => HF'.out) ?_
          clear hK K HF hc0 hc1 hf0 hf1
          have HF := hide HF'.out
          clear HF'
          generalize (ws1.setCell ⟨gr, 0, none⟩ (.bool sr)).setCell ⟨gr, 1, none⟩ (.slice mr kr cr) = ws2 at *
          refine Calm.done (by kernel_rfl) ?_
          go_wp2
          go_meet
          case rel => exact ⟨gq, gr, sq, mq, kq, cq, sr, mr, kr, cr, rfl, rfl, LTS.out, HF.out.1, HF.out.2.1, HF.out.2.2.1, HF.out.2.2.2.1, HF.out.2.2.2.2.1, BXq.out, BXr.out, TQ.out, TR.out⟩
    · go_simp
      have al := below_alloc w1d (.cells #[.bool false, .slice none 0 0] 28)
      have HF' := hide (And.intro (HF.out.1.trans ((al).mono HF.out.1.size)) (And.intro (HF.out.2.1.step (al)) (And.intro (HF.out.2.2.1.step (al)) (And.intro (HF.out.2.2.2.1.step (al)) (And.intro (HF.out.2.2.2.2.1.step (al)) (And.intro (HF.out.2.2.2.2.2.1.below (al)) (HF.out.2.2.2.2.2.2.below (al))))))))
      have BXq := hide (Box.new w1d (.bool false) (.slice none 0 0))
      have LT1q := hide (HF.out.2.1.lt)
      have LT2q := hide (HF.out.2.2.1.lt)
      have LT3q := hide (HF.out.2.2.2.1.lt)
      have LT4q := hide (HF.out.2.2.2.2.1.lt)
      have GEq := hide (HF.out.1.size)
      refine hK _ _ (fun _ => HF'.out) ?_
      clear hK K HF al
      have HF := hide HF'.out
      clear HF'
      generalize w1d.alloc (.cells #[.bool false, .slice none 0 0] 28) = wzq at *
      generalize w1d.heap.size = gq at *
      refine Calm.two (i := 6) (j := 12) (l := #[true, true, true, true, true, true, true, true, true, true, false, true, false, false, false]) (l' := #[true, true, true, true, true, true, false, true, true, true, false, true, true, false, false]) (by kernel_rfl) rfl rfl rfl rfl rfl rfl (fun K hK => ?_) (fun K hK => ?_)
      · go_simp
        refine (made_any _ (n1 / n2) _ _ HF.out.2.2.2.2.2.1).mono ?_
        rintro e u1 ⟨v, rfl, n, hb⟩
        obtain ⟨sq, mq, kq, cq, rfl, n⟩ := n.cells
        replace BXq := hide (BXq.out.step hb)
        have HF' := hide (And.intro (HF.out.1.trans ((hb).mono HF.out.1.size)) (And.intro (HF.out.2.1.step (hb)) (And.intro (HF.out.2.2.1.step (hb)) (And.intro (HF.out.2.2.2.1.step (hb)) (And.intro (HF.out.2.2.2.2.1.step (hb)) (And.intro (HF.out.2.2.2.2.2.1.below (hb)) (HF.out.2.2.2.2.2.2.below (hb))))))))
        have TQ := hide (n)
        refine hK _ _ (fun _ => HF'.out) ?_
        clear hK K HF hb n
        have HF := hide HF'.out
        clear HF'
        refine Calm.two (i := 10) (j := 12) (l := #[true, true, true, true, true, true, true, true, true, true, true, true, false, false, false]) (l' := #[true, true, true, true, true, true, true, true, true, true, false, true, true, false, false]) (by kernel_rfl) rfl rfl rfl rfl rfl rfl (fun K hK => ?_) (fun K hK => ?_)
        · go_simp
          refine (made_any _ (n1 % n2) _ _ HF.out.2.2.2.2.2.2).mono ?_
          rintro e u2 ⟨v, rfl, n, hb⟩
          obtain ⟨sr, mr, kr, cr, rfl, n⟩ := n.cells
          replace TQ := hide (TQ.out.below (hb))
          replace BXq := hide (BXq.out.step hb)
          have HF' := hide (And.intro (HF.out.1.trans ((hb).mono HF.out.1.size)) (And.intro (HF.out.2.1.step (hb)) (And.intro (HF.out.2.2.1.step (hb)) (And.intro (HF.out.2.2.2.1.step (hb)) (And.intro (HF.out.2.2.2.2.1.step (hb)) (And.intro (HF.out.2.2.2.2.2.1.below (hb)) (HF.out.2.2.2.2.2.2.below (hb))))))))
          have TR := hide (n)
          refine hK _ _ (fun _ => HF'.out) ?_
          clear hK K HF hb n
          have HF := hide HF'.out
          clear HF'
          refine Calm.one (i := 12) (l' := #[true, true, true, true, true, true, true, true, true, true, true, true, true, false, false]) (by kernel_rfl) rfl rfl rfl fun K hK => ?_
          go_simp
          have al := below_alloc u2 (.cells #[.bool false, .slice none 0 0] 28)
          have HF' := hide (And.intro (HF.out.1.trans ((al).mono HF.out.1.size)) (And.intro (HF.out.2.1.step (al)) (And.intro (HF.out.2.2.1.step (al)) (And.intro (HF.out.2.2.2.1.step (al)) (And.intro (HF.out.2.2.2.2.1.step (al)) (And.intro (HF.out.2.2.2.2.2.1.below (al)) (HF.out.2.2.2.2.2.2.below (al))))))))
          replace TQ := hide (TQ.out.below (al))
          replace TR := hide (TR.out.below (al))
          have LTqr := hide (BXq.out.lt)
          replace BXq := hide (BXq.out.step al)
          have BXr := hide (Box.new u2 (.bool false) (.slice none 0 0))
          have LT1r := hide (HF.out.2.1.lt)
          have LT2r := hide (HF.out.2.2.1.lt)
          have LT3r := hide (HF.out.2.2.2.1.lt)
          have LT4r := hide (HF.out.2.2.2.2.1.lt)
          have GEr := hide (HF.out.1.size)
          refine hK _ _ (fun _ => HF'.out) ?_
          clear hK K HF al
          have HF := hide HF'.out
          clear HF'
          generalize u2.alloc (.cells #[.bool false, .slice none 0 0] 28) = wzr at *
          generalize u2.heap.size = gr at *
          refine Calm.one (i := 13) (l' := #[true, true, true, true, true, true, true, true, true, true, true, true, true, true, false]) (by kernel_rfl) rfl rfl rfl fun K hK => ?_
          have LTS := hide (And.intro LT1q.out (And.intro LT2q.out (And.intro LT3q.out (And.intro LT4q.out (And.intro LT1r.out (And.intro LT2r.out (And.intro LT3r.out (And.intro LT4r.out (show gq ≠ gr by first | exact Nat.ne_of_lt LTqr.out | exact Nat.ne_of_gt LTrq.out)))))))))
          have hc0 := BXq.out.cell0
          have hc1 := BXq.out.cell1
          have hf0 := BXq.out.free 0
          have hf1 := BXq.out.free 1
          go_simp
          have HF' := hide (And.intro (below_put HF.out.1 (show w.heap.size ≤ gq by have hx := LTS.out; omega) (.bool sq) (.slice mq kq cq)) (And.intro (HF.out.2.1.other (C := gq) (by have hx := LTS.out; omega) (.bool sq) (.slice mq kq cq)) (And.intro (HF.out.2.2.1.other (C := gq) (by have hx := LTS.out; omega) (.bool sq) (.slice mq kq cq)) (And.intro (HF.out.2.2.2.1.other (C := gq) (by have hx := LTS.out; omega) (.bool sq) (.slice mq kq cq)) (And.intro (HF.out.2.2.2.2.1.other (C := gq) (by have hx := LTS.out; omega) (.bool sq) (.slice mq kq cq)) (And.intro (BXq.out.keeps (by simp) (by simp) (.bool sq) (.slice mq kq cq) _ _ HF.out.2.2.2.2.2.1) (BXq.out.keeps (by simp) (by simp) (.bool sq) (.slice mq kq cq) _ _ HF.out.2.2.2.2.2.2)))))))
          replace TQ := hide (TQ.out.keep (BXq.out.keeps (by simp) (by simp) (.bool sq) (.slice mq kq cq)))
          replace TR := hide (TR.out.keep (BXq.out.keeps (by simp) (by simp) (.bool sq) (.slice mq kq cq)))
          replace BXr := hide (BXr.out.other (C := gq) (by have hx := LTS.out; omega) (.bool sq) (.slice mq kq cq))
          replace BXq := hide (BXq.out.put (.bool sq) (.slice mq kq cq))
          refine hK _ _ (fun _ => HF'.out) ?_
          clear hK K HF hc0 hc1 hf0 hf1
          have HF := hide HF'.out
          clear HF'
          generalize (wzr.setCell ⟨gq, 0, none⟩ (.bool sq)).setCell ⟨gq, 1, none⟩ (.slice mq kq cq) = ws1 at *
          refine Calm.one (i := 14) (l' := #[true, true, true, true, true, true, true, true, true, true, true, true, true, true, true]) (by kernel_rfl) rfl rfl rfl fun K hK => ?_
          have hc0 := BXr.out.cell0
          have hc1 := BXr.out.cell1
          have hf0 := BXr.out.free 0
          have hf1 := BXr.out.free 1
          go_simp
          have HF' := hide (And.intro (below_put HF.out.1 (show w.heap.size ≤ gr by have hx := LTS.out; omega) (.bool sr) (.slice mr kr cr)) (And.intro (HF.out.2.1.other (C := gr) (by have hx := LTS.out; omega) (.bool sr) (.slice mr kr cr)) (And.intro (HF.out.2.2.1.other (C := gr) (by have hx := LTS.out; omega) (.bool sr) (.slice mr kr cr)) (And.intro (HF.out.2.2.2.1.other (C := gr) (by have hx := LTS.out; omega) (.bool sr) (.slice mr kr cr)) (And.intro (HF.out.2.2.2.2.1.other (C := gr) (by have hx := LTS.out; omega) (.bool sr) (.slice mr kr cr)) (And.intro (BXr.out.keeps (by simp) (by simp) (.bool sr) (.slice mr kr cr) _ _ HF.out.2.2.2.2.2.1) (BXr.out.keeps (by simp) (by simp) (.bool sr) (.slice mr kr cr) _ _ HF.out.2.2.2.2.2.2)))))))
          replace TQ := hide (TQ.out.keep (BXr.out.keeps (by simp) (by simp) (.bool sr) (.slice mr kr cr)))
          replace TR := hide (TR.out.keep (BXr.out.keeps (by simp) (by simp) (.bool sr) (.slice mr kr cr)))
          replace BXq := hide (BXq.out.other (C := gr) (by have hx := LTS.out; omega) (.bool sr) (.slice mr kr cr))
          replace BXr := hide (BXr.out.put (.bool sr) (.slice mr kr cr))
          refine hK _ _ (fun _ => HF'.out) ?_
          clear hK K HF hc0 hc1 hf0 hf1
          have HF := hide HF'.out
          clear HF'
          generalize (ws1.setCell ⟨gr, 0, none⟩ (.bool sr)).setCell ⟨gr, 1, none⟩ (.slice mr kr cr) = ws2 at *
          refine Calm.done (by kernel_rfl) ?_
          go_wp2
          go_meet
          case rel => exact ⟨gq, gr, sq, mq, kq, cq, sr, mr, kr, cr, rfl, rfl, LTS.out, HF.out.1, HF.out.2.1, HF.out.2.2.1, HF.out.2.2.2.1, HF.out.2.2.2.2.1, BXq.out, BXr.out, TQ.out, TR.out⟩
        · go_simp
          have al := below_alloc u1 (.cells #[.bool false, .slice none 0 0] 28)
          have HF' := hide (And.intro (HF.out.1.trans ((al).mono HF.out.1.size)) (And.intro (HF.out.2.1.step (al)) (And.intro (HF.out.2.2.1.step (al)) (And.intro (HF.out.2.2.2.1.step (al)) (And.intro (HF.out.2.2.2.2.1.step (al)) (And.intro (HF.out.2.2.2.2.2.1.below (al)) (HF.out.2.2.2.2.2.2.below (al))))))))
          replace TQ := hide (TQ.out.below (al))
          have LTqr := hide (BXq.out.lt)
          replace BXq := hide (BXq.out.step al)
          have BXr := hide (Box.new u1 (.bool false) (.slice none 0 0))
          have LT1r := hide (HF.out.2.1.lt)
          have LT2r := hide (HF.out.2.2.1.lt)
          have LT3r := hide (HF.out.2.2.2.1.lt)
          have LT4r := hide (HF.out.2.2.2.2.1.lt)
          have GEr := hide (HF.out.1.size)
          refine hK _ _ (fun _ => HF'.out) ?_
          clear hK K HF al
          have HF := hide HF'.out
          clear HF'
          generalize u1.alloc (.cells #[.bool false, .slice none 0 0] 28) = wzr at *
          generalize u1.heap.size = gr at *
          refine Calm.one (i := 10) (l' := #[true, true, true, true, true, true, true, true, true, true, true, true, true, false, false]) (by kernel_rfl) rfl rfl rfl fun K hK => ?_
          go_simp
          refine (made_any _ (n1 % n2) _ _ HF.out.2.2.2.2.2.2).mono ?_
          rintro e u2 ⟨v, rfl, n, hb⟩
          obtain ⟨sr, mr, kr, cr, rfl, n⟩ := n.cells
          replace TQ := hide (TQ.out.below (hb))
          replace BXq := hide (BXq.out.step hb)
          replace BXr := hide (BXr.out.step hb)
          have HF' := hide (And.intro (HF.out.1.trans ((hb).mono HF.out.1.size)) (And.intro (HF.out.2.1.step (hb)) (And.intro (HF.out.2.2.1.step (hb)) (And.intro (HF.out.2.2.2.1.step (hb)) (And.intro (HF.out.2.2.2.2.1.step (hb)) (And.intro (HF.out.2.2.2.2.2.1.below (hb)) (HF.out.2.2.2.2.2.2.below (hb))))))))
          have TR := hide (n)
          refine hK _ _ (fun _ => HF'.out) ?_
          clear hK K HF hb n
          have HF := hide HF'.out
          clear HF'
          refine Calm.one (i := 13) (l' := #[true, true, true, true, true, true, true, true, true, true, true, true, true, true, false]) (by kernel_rfl) rfl rfl rfl fun K hK => ?_
          have LTS := hide (And.intro LT1q.out (And.intro LT2q.out (And.intro LT3q.out (And.intro LT4q.out (And.intro LT1r.out (And.intro LT2r.out (And.intro LT3r.out (And.intro LT4r.out (show gq ≠ gr by first | exact Nat.ne_of_lt LTqr.out | exact Nat.ne_of_gt LTrq.out)))))))))
          have hc0 := BXq.out.cell0
          have hc1 := BXq.out.cell1
          have hf0 := BXq.out.free 0
          have hf1 := BXq.out.free 1
          go_simp
          have HF' := hide (And.intro (below_put HF.out.1 (show w.heap.size ≤ gq by have hx := LTS.out; omega) (.bool sq) (.slice mq kq cq)) (And.intro (HF.out.2.1.other (C := gq) (by have hx := LTS.out; omega) (.bool sq) (.slice mq kq cq)) (And.intro (HF.out.2.2.1.other (C := gq) (by have hx := LTS.out; omega) (.bool sq) (.slice mq kq cq)) (And.intro (HF.out.2.2.2.1.other (C := gq) (by have hx := LTS.out; omega) (.bool sq) (.slice mq kq cq)) (And.intro (HF.out.2.2.2.2.1.other (C := gq) (by have hx := LTS.out; omega) (.bool sq) (.slice mq kq cq)) (And.intro (BXq.out.keeps (by simp) (by simp) (.bool sq) (.slice mq kq cq) _ _ HF.out.2.2.2.2.2.1) (BXq.out.keeps (by simp) (by simp) (.bool sq) (.slice mq kq cq) _ _ HF.out.2.2.2.2.2.2)))))))
          replace TQ := hide (TQ.out.keep (BXq.out.keeps (by simp) (by simp) (.bool sq) (.slice mq kq cq)))
          replace TR := hide (TR.out.keep (BXq.out.keeps (by simp) (by simp) (.bool sq) (.slice mq kq cq)))
          replace BXr := hide (BXr.out.other (C := gq) (by have hx := LTS.out; omega) (.bool sq) (.slice mq kq cq))
          replace BXq := hide (BXq.out.put (.bool sq) (.slice mq kq cq))
          refine hK _ _ (fun _ => HF'.out) ?_
          clear hK K HF hc0 hc1 hf0 hf1
          have HF := hide HF'.out
          clear HF'
          generalize (u2.setCell ⟨gq, 0, none⟩ (.bool sq)).setCell ⟨gq, 1, none⟩ (.slice mq kq cq) = ws1 at *
          refine Calm.one (i := 14) (l' := #[true, true, true, true, true, true, true, true, true, true, true, true, true, true, true]) (by kernel_rfl) rfl rfl rfl fun K hK => ?_
          have hc0 := BXr.out.cell0
          have hc1 := BXr.out.cell1
          have hf0 := BXr.out.free 0
          have hf1 := BXr.out.free 1
          go_simp
          have HF' := hide (And.intro (below_put HF.out.1 (show w.heap.size ≤ gr by have hx := LTS.out; omega) (.bool sr) (.slice mr kr cr)) (And.intro (HF.out.2.1.other (C := gr) (by have hx := LTS.out; omega) (.bool sr) (.slice mr kr cr)) (And.intro (HF.out.2.2.1.other (C := gr) (by have hx := LTS.out; omega) (.bool sr) (.slice mr kr cr)) (And.intro (HF.out.2.2.2.1.other (C := gr) (by have hx := LTS.out; omega) (.bool sr) (.slice mr kr cr)) (And.intro (HF.out.2.2.2.2.1.other (C := gr) (by have hx := LTS.out; omega) (.bool sr) (.slice mr kr cr)) (And.intro (BXr.out.keeps (by simp) (by simp) (.bool sr) (.slice mr kr cr) _ _ HF.out.2.2.2.2.2.1) (BXr.out.keeps (by simp) (by simp) (.bool sr) (.slice mr kr cr) _ _ HF.out.2.2.2.2.2.2)))))))
          replace TQ := hide (TQ.out.keep (BXr.out.keeps (by simp) (by simp) (.bool sr) (.slice mr kr cr)))
          replace TR := hide (TR.out.keep (BXr.out.keeps (by simp) (by simp) (.bool sr) (.slice mr kr cr)))
          replace BXq := hide (BXq.out.other (C := gr) (by have hx := LTS.out; omega) (.bool sr) (.slice mr kr cr))
          replace BXr := hide (BXr.out.put (.bool sr) (.slice mr kr cr))
          refine hK _ _ (fun _ => HF'.out) ?_
          clear hK K HF hc0 hc1 hf0 hf1
          have HF := hide HF'.out
          clear HF'
          generalize (ws1.setCell ⟨gr, 0, none⟩ (.bool sr)).setCell ⟨gr, 1, none⟩ (.slice mr kr cr) = ws2 at *
          refine Calm.done (by kernel_rfl) ?_
          go_wp2
          go_meet
          case rel => exact ⟨gq, gr, sq, mq, kq, cq, sr, mr, kr, cr, rfl, rfl, LTS.out, HF.out.1, HF.out.2.1, HF.out.2.2.1, HF.out.2.2.2.1, HF.out.2.2.2.2.1, BXq.out, BXr.out, TQ.out, TR.out⟩
      · go_simp
        have al := below_alloc wzq (.cells #[.bool false, .slice none 0 0] 28)
        have HF' := hide (And.intro (HF.out.1.trans ((al).mono HF.out.1.size)) (And.intro (HF.out.2.1.step (al)) (And.intro (HF.out.2.2.1.step (al)) (And.intro (HF.out.2.2.2.1.step (al)) (And.intro (HF.out.2.2.2.2.1.step (al)) (And.intro (HF.out.2.2.2.2.2.1.below (al)) (HF.out.2.2.2.2.2.2.below (al))))))))
        have LTqr := hide (BXq.out.lt)
        replace BXq := hide (BXq.out.step al)
        have BXr := hide (Box.new wzq (.bool false) (.slice none 0 0))
        have LT1r := hide (HF.out.2.1.lt)
        have LT2r := hide (HF.out.2.2.1.lt)
        have LT3r := hide (HF.out.2.2.2.1.lt)
        have LT4r := hide (HF.out.2.2.2.2.1.lt)
        have GEr := hide (HF.out.1.size)
        refine hK _ _ (fun _ => HF'.out) ?_
        clear hK K HF al
        have HF := hide HF'.out
        clear HF'
        generalize wzq.alloc (.cells #[.bool false, .slice none 0 0] 28) = wzr at *
        generalize wzq.heap.size = gr at *
        refine Calm.one (i := 6) (l' := #[true, true, true, true, true, true, true, true, true, true, false, true, true, false, false]) (by kernel_rfl) rfl rfl rfl fun K hK => ?_
        go_simp
        refine (made_any _ (n1 / n2) _ _ HF.out.2.2.2.2.2.1).mono ?_
        rintro e u1 ⟨v, rfl, n, hb⟩
        obtain ⟨sq, mq, kq, cq, rfl, n⟩ := n.cells
        replace BXq := hide (BXq.out.step hb)
        replace BXr := hide (BXr.out.step hb)
        have HF' := hide (And.intro (HF.out.1.trans ((hb).mono HF.out.1.size)) (And.intro (HF.out.2.1.step (hb)) (And.intro (HF.out.2.2.1.step (hb)) (And.intro (HF.out.2.2.2.1.step (hb)) (And.intro (HF.out.2.2.2.2.1.step (hb)) (And.intro (HF.out.2.2.2.2.2.1.below (hb)) (HF.out.2.2.2.2.2.2.below (hb))))))))
        have TQ := hide (n)
        refine hK _ _ (fun _ => HF'.out) ?_
        clear hK K HF hb n
        have HF := hide HF'.out
        clear HF'
        refine Calm.one (i := 10) (l' := #[true, true, true, true, true, true, true, true, true, true, true, true, true, false, false]) (by kernel_rfl) rfl rfl rfl fun K hK => ?_
        go_simp
        refine (made_any _ (n1 % n2) _ _ HF.out.2.2.2.2.2.2).mono ?_
        rintro e u2 ⟨v, rfl, n, hb⟩
        obtain ⟨sr, mr, kr, cr, rfl, n⟩ := n.cells
        replace TQ := hide (TQ.out.below (hb))
        replace BXq := hide (BXq.out.step hb)
        replace BXr := hide (BXr.out.step hb)
        have HF' := hide (And.intro (HF.out.1.trans ((hb).mono HF.out.1.size)) (And.intro (HF.out.2.1.step (hb)) (And.intro (HF.out.2.2.1.step (hb)) (And.intro (HF.out.2.2.2.1.step (hb)) (And.intro (HF.out.2.2.2.2.1.step (hb)) (And.intro (HF.out.2.2.2.2.2.1.below (hb)) (HF.out.2.2.2.2.2.2.below (hb))))))))
        have TR := hide (n)
        refine hK _ _ (fun _ => HF'.out) ?_
        clear hK K HF hb n
        have HF := hide HF'.out
        clear HF'
        refine Calm.one (i := 13) (l' := #[true, true, true, true, true, true, true, true, true, true, true, true, true, true, false]) (by kernel_rfl) rfl rfl rfl fun K hK => ?_
        have LTS := hide (And.intro LT1q.out (And.intro LT2q.out (And.intro LT3q.out (And.intro LT4q.out (And.intro LT1r.out (And.intro LT2r.out (And.intro LT3r.out (And.intro LT4r.out (show gq ≠ gr by first | exact Nat.ne_of_lt LTqr.out | exact Nat.ne_of_gt LTrq.out)))))))))
        have hc0 := BXq.out.cell0
        have hc1 := BXq.out.cell1
        have hf0 := BXq.out.free 0
        have hf1 := BXq.out.free 1
        go_simp
        have HF' := hide (And.intro (below_put HF.out.1 (show w.heap.size ≤ gq by have hx := LTS.out; omega) (.bool sq) (.slice mq kq cq)) (And.intro (HF.out.2.1.other (C := gq) (by have hx := LTS.out; omega) (.bool sq) (.slice mq kq cq)) (And.intro (HF.out.2.2.1.other (C := gq) (by have hx := LTS.out; omega) (.bool sq) (.slice mq kq cq)) (And.intro (HF.out.2.2.2.1.other (C := gq) (by have hx := LTS.out; omega) (.bool sq) (.slice mq kq cq)) (And.intro (HF.out.2.2.2.2.1.other (C := gq) (by have hx := LTS.out; omega) (.bool sq) (.slice mq kq cq)) (And.intro (BXq.out.keeps (by simp) (by simp) (.bool sq) (.slice mq kq cq) _ _ HF.out.2.2.2.2.2.1) (BXq.out.keeps (by simp) (by simp) (.bool sq) (.slice mq kq cq) _ _ HF.out.2.2.2.2.2.2)))))))
        replace TQ := hide (TQ.out.keep (BXq.out.keeps (by simp) (by simp) (.bool sq) (.slice mq kq cq)))
        replace TR := hide (TR.out.keep (BXq.out.keeps (by simp) (by simp) (.bool sq) (.slice mq kq cq)))
        replace BXr := hide (BXr.out.other (C := gq) (by have hx := LTS.out; omega) (.bool sq) (.slice mq kq cq))
        replace BXq := hide (BXq.out.put (.bool sq) (.slice mq kq cq))
        refine hK _ _ (fun _ => HF'.out) ?_
        clear hK K HF hc0 hc1 hf0 hf1
        have HF := hide HF'.out
        clear HF'
        generalize (u2.setCell ⟨gq, 0, none⟩ (.bool sq)).setCell ⟨gq, 1, none⟩ (.slice mq kq cq) = ws1 at *
        refine Calm.one (i := 14) (l' := #[true, true, true, true, true, true, true, true, true, true, true, true, true, true, true]) (by kernel_rfl) rfl rfl rfl fun K hK => ?_
        have hc0 := BXr.out.cell0
        have hc1 := BXr.out.cell1
        have hf0 := BXr.out.free 0
        have hf1 := BXr.out.free 1
        go_simp
        have HF' := hide (And.intro (below_put HF.out.1 (show w.heap.size ≤ gr by have hx := LTS.out; omega) (.bool sr) (.slice mr kr cr)) (And.intro (HF.out.2.1.other (C := gr) (by have hx := LTS.out; omega) (.bool sr) (.slice mr kr cr)) (And.intro (HF.out.2.2.1.other (C := gr) (by have hx := LTS.out; omega) (.bool sr) (.slice mr kr cr)) (And.intro (HF.out.2.2.2.1.other (C := gr) (by have hx := LTS.out; omega) (.bool sr) (.slice mr kr cr)) (And.intro (HF.out.2.2.2.2.1.other (C := gr) (by have hx := LTS.out; omega) (.bool sr) (.slice mr kr cr)) (And.intro (BXr.out.keeps (by simp) (by simp) (.bool sr) (.slice mr kr cr) _ _ HF.out.2.2.2.2.2.1) (BXr.out.keeps (by simp) (by simp) (.bool sr) (.slice mr kr cr) _ _ HF.out.2.2.2.2.2.2)))))))
        replace TQ := hide (TQ.out.keep (BXr.out.keeps (by simp) (by simp) (.bool sr) (.slice mr kr cr)))
        replace TR := hide (TR.out.keep (BXr.out.keeps (by simp) (by simp) (.bool sr) (.slice mr kr cr)))
        replace BXq := hide (BXq.out.other (C := gr) (by have hx := LTS.out; omega) (.bool sr) (.slice mr kr cr))
        replace BXr := hide (BXr.out.put (.bool sr) (.slice mr kr cr))
        refine hK _ _ (fun _ => HF'.out) ?_
        clear hK K HF hc0 hc1 hf0 hf1
        have HF := hide HF'.out
        clear HF'
        generalize (ws1.setCell ⟨gr, 0, none⟩ (.bool sr)).setCell ⟨gr, 1, none⟩ (.slice mr kr cr) = ws2 at *
        refine Calm.done (by kernel_rfl) ?_
        go_wp2
        go_meet
        case rel => exact ⟨gq, gr, sq, mq, kq, cq, sr, mr, kr, cr, rfl, rfl, LTS.out, HF.out.1, HF.out.2.1, HF.out.2.2.1, HF.out.2.2.2.1, HF.out.2.2.2.2.1, BXq.out, BXr.out, TQ.out, TR.out⟩
    · go_simp
      have al := below_alloc w1d (.cells #[.bool false, .slice none 0 0] 28)
      have HF' := hide (And.intro (HF.out.1.trans ((al).mono HF.out.1.size)) (And.intro (HF.out.2.1.step (al)) (And.intro (HF.out.2.2.1.step (al)) (And.intro (HF.out.2.2.2.1.step (al)) (And.intro (HF.out.2.2.2.2.1.step (al)) (And.intro (HF.out.2.2.2.2.2.1.below (al)) (HF.out.2.2.2.2.2.2.below (al))))))))
      have BXr := hide (Box.new w1d (.bool false) (.slice none 0 0))
      have LT1r := hide (HF.out.2.1.lt)
      have LT2r := hide (HF.out.2.2.1.lt)
      have LT3r := hide (HF.out.2.2.2.1.lt)
      have LT4r := hide (HF.out.2.2.2.2.1.lt)
      have GEr := hide (HF.out.1.size)
      refine hK _ _ (fun _ => HF'.out) ?_
      clear hK K HF al
      have HF := hide HF'.out
      clear HF'
      generalize w1d.alloc (.cells #[.bool false, .slice none 0 0] 28) = wzr at *
      generalize w1d.heap.size = gr at *
      refine Calm.two (i := 6) (j := 11) (l := #[true, true, true, true, true, true, true, true, true, true, false, false, true, false, false]) (l' := #[true, true, true, true, true, true, false, true, true, true, false, true, true, false, false]) (by kernel_rfl) rfl rfl rfl rfl rfl rfl (fun K hK => ?_) (fun K hK => ?_)
      · go_simp
        refine (made_any _ (n1 / n2) _ _ HF.out.2.2.2.2.2.1).mono ?_
        rintro e u1 ⟨v, rfl, n, hb⟩
        obtain ⟨sq, mq, kq, cq, rfl, n⟩ := n.cells
        replace BXr := hide (BXr.out.step hb)
        have HF' := hide (And.intro (HF.out.1.trans ((hb).mono HF.out.1.size)) (And.intro (HF.out.2.1.step (hb)) (And.intro (HF.out.2.2.1.step (hb)) (And.intro (HF.out.2.2.2.1.step (hb)) (And.intro (HF.out.2.2.2.2.1.step (hb)) (And.intro (HF.out.2.2.2.2.2.1.below (hb)) (HF.out.2.2.2.2.2.2.below (hb))))))))
        have TQ := hide (n)
        refine hK _ _ (fun _ => HF'.out) ?_
        clear hK K HF hb n
        have HF := hide HF'.out
        clear HF'
        refine Calm.two (i := 10) (j := 11) (l := #[true, true, true, true, true, true, true, true, true, true, true, false, true, false, false]) (l' := #[true, true, true, true, true, true, true, true, true, true, false, true, true, false, false]) (by kernel_rfl) rfl rfl rfl rfl rfl rfl (fun K hK => ?_) (fun K hK => ?_)
        · go_simp
          refine (made_any _ (n1 % n2) _ _ HF.out.2.2.2.2.2.2).mono ?_
          rintro e u2 ⟨v, rfl, n, hb⟩
          obtain ⟨sr, mr, kr, cr, rfl, n⟩ := n.cells
          replace TQ := hide (TQ.out.below (hb))
          replace BXr := hide (BXr.out.step hb)
          have HF' := hide (And.intro (HF.out.1.trans ((hb).mono HF.out.1.size)) (And.intro (HF.out.2.1.step (hb)) (And.intro (HF.out.2.2.1.step (hb)) (And.intro (HF.out.2.2.2.1.step (hb)) (And.intro (HF.out.2.2.2.2.1.step (hb)) (And.intro (HF.out.2.2.2.2.2.1.below (hb)) (HF.out.2.2.2.2.2.2.below (hb))))))))
          have TR := hide (n)
          refine hK _ _ (fun _ => HF'.out) ?_
          clear hK K HF hb n
          have HF := hide HF'.out
          clear HF'
          refine Calm.one (i := 11) (l' := #[true, true, true, true, true, true, true, true, true, true, true, true, true, false, false]) (by kernel_rfl) rfl rfl rfl fun K hK => ?_
          go_simp
          have al := below_alloc u2 (.cells #[.bool false, .slice none 0 0] 28)
          have HF' := hide (And.intro (HF.out.1.trans ((al).mono HF.out.1.size)) (And.intro (HF.out.2.1.step (al)) (And.intro (HF.out.2.2.1.step (al)) (And.intro (HF.out.2.2.2.1.step (al)) (And.intro (HF.out.2.2.2.2.1.step (al)) (And.intro (HF.out.2.2.2.2.2.1.below (al)) (HF.out.2.2.2.2.2.2.below (al))))))))
          replace TQ := hide (TQ.out.below (al))
          replace TR := hide (TR.out.below (al))
          have LTrq := hide (BXr.out.lt)
          replace BXr := hide (BXr.out.step al)
          have BXq := hide (Box.new u2 (.bool false) (.slice none 0 0))
          have LT1q := hide (HF.out.2.1.lt)
          have LT2q := hide (HF.out.2.2.1.lt)
          have LT3q := hide (HF.out.2.2.2.1.lt)
          have LT4q := hide (HF.out.2.2.2.2.1.lt)
          have GEq := hide (HF.out.1.size)
          refine hK _ _ (fun _ => HF'.out) ?_
          clear hK K HF al
          have HF := hide HF'.out
          clear HF'
          generalize u2.alloc (.cells #[.bool false, .slice none 0 0] 28) = wzq at *
          generalize u2.heap.size = gq at *
          refine Calm.one (i := 13) (l' := #[true, true, true, true, true, true, true, true, true, true, true, true, true, true, false]) (by kernel_rfl) rfl rfl rfl fun K hK => ?_
          have LTS := hide (And.intro LT1q.out (And.intro LT2q.out (And.intro LT3q.out (And.intro LT4q.out (And.intro LT1r.out (And.intro LT2r.out (And.intro LT3r.out (And.intro LT4r.out (show gq ≠ gr by first | exact Nat.ne_of_lt LTqr.out | exact Nat.ne_of_gt LTrq.out)))))))))
          have hc0 := BXq.out.cell0
          have hc1 := BXq.out.cell1
          have hf0 := BXq.out.free 0
          have hf1 := BXq.out.free 1
          go_simp
          have HF' := hide (And.intro (below_put HF.out.1 (show w.heap.size ≤ gq by have hx := LTS.out; omega) (.bool sq) (.slice mq kq cq)) (And.intro (HF.out.2.1.other (C := gq) (by have hx := LTS.out; omega) (.bool sq) (.slice mq kq cq)) (And.intro (HF.out.2.2.1.other (C := gq) (by have hx := LTS.out; omega) (.bool sq) (.slice mq kq cq)) (And.intro (HF.out.2.2.2.1.other (C := gq) (by have hx := LTS.out; omega) (.bool sq) (.slice mq kq cq)) (And.intro (HF.out.2.2.2.2.1.other (C := gq) (by have hx := LTS.out; omega) (.bool sq) (.slice mq kq cq)) (And.intro (BXq.out.keeps (by simp) (by simp) (.bool sq) (.slice mq kq cq) _ _ HF.out.2.2.2.2.2.1) (BXq.out.keeps (by simp) (by simp) (.bool sq) (.slice mq kq cq) _ _ HF.out.2.2.2.2.2.2)))))))
          replace TQ := hide (TQ.out.keep (BXq.out.keeps (by simp) (by simp) (.bool sq) (.slice mq kq cq)))
          replace TR := hide (TR.out.keep (BXq.out.keeps (by simp) (by simp) (.bool sq) (.slice mq kq cq)))
          replace BXr := hide (BXr.out.other (C := gq) (by have hx := LTS.out; omega) (.bool sq) (.slice mq kq cq))
          replace BXq := hide (BXq.out.put (.bool sq) (.slice mq kq cq))
          refine hK _ _ (fun _ => HF'.out) ?_
          clear hK K HF hc0 hc1 hf0 hf1
          have HF := hide HF'.out
          clear HF'
          generalize (wzq.setCell ⟨gq, 0, none⟩ (.bool sq)).setCell ⟨gq, 1, none⟩ (.slice mq kq cq) = ws1 at *
          refine Calm.one (i := 14) (l' := #[true, true, true, true, true, true, true, true, true, true, true, true, true, true, true]) (by kernel_rfl) rfl rfl rfl fun K hK => ?_
          have hc0 := BXr.out.cell0
          have hc1 := BXr.out.cell1
          have hf0 := BXr.out.free 0
          have hf1 := BXr.out.free 1
          go_simp
          have HF' := hide (And.intro (below_put HF.out.1 (show w.heap.size ≤ gr by have hx := LTS.out; omega) (.bool sr) (.slice mr kr cr)) (And.intro (HF.out.2.1.other (C := gr) (by have hx := LTS.out; omega) (.bool sr) (.slice mr kr cr)) (And.intro (HF.out.2.2.1.other (C := gr) (by have hx := LTS.out; omega) (.bool sr) (.slice mr kr cr)) (And.intro (HF.out.2.2.2.1.other (C := gr) (by have hx := LTS.out; omega) (.bool sr) (.slice mr kr cr)) (And.intro (HF.out.2.2.2.2.1.other (C := gr) (by have hx := LTS.out; omega) (.bool sr) (.slice mr kr cr)) (And.intro (BXr.out.keeps (by simp) (by simp) (.bool sr) (.slice mr kr cr) _ _ HF.out.2.2.2.2.2.1) (BXr.out.keeps (by simp) (by simp) (.bool sr) (.slice mr kr cr) _ _ HF.out.2.2.2.2.2.2)))))))
          replace TQ := hide (TQ.out.keep (BXr.out.keeps (by simp) (by simp) (.bool sr) (.slice mr kr cr)))
          replace TR := hide (TR.out.keep (BXr.out.keeps (by simp) (by simp) (.bool sr) (.slice mr kr cr)))
          replace BXq := hide (BXq.out.other (C := gr) (by have hx := LTS.out; omega) (.bool sr) (.slice mr kr cr))
          replace BXr := hide (BXr.out.put (.bool sr) (.slice mr kr cr))
          refine hK _ _ (fun _ => HF'.out) ?_
          clear hK K HF hc0 hc1 hf0 hf1
          have HF := hide HF'.out
          clear HF'
          generalize (ws1.setCell ⟨gr, 0, none⟩ (.bool sr)).setCell ⟨gr, 1, none⟩ (.slice mr kr cr) = ws2 at *
          refine Calm.done (by kernel_rfl) ?_
          go_wp2
          go_meet
          case rel => exact ⟨gq, gr, sq, mq, kq, cq, sr, mr, kr, cr, rfl, rfl, LTS.out, HF.out.1, HF.out.2.1, HF.out.2.2.1, HF.out.2.2.2.1, HF.out.2.2.2.2.1, BXq.out, BXr.out, TQ.out, TR.out⟩
        · go_simp
          have al := below_alloc u1 (.cells #[.bool false, .slice none 0 0] 28)
          have HF' := hide (And.intro (HF.out.1.trans ((al).mono HF.out.1.size)) (And.intro (HF.out.2.1.step (al)) (And.intro (HF.out.2.2.1.step (al)) (And.intro (HF.out.2.2.2.1.step (al)) (And.intro (HF.out.2.2.2.2.1.step (al)) (And.intro (HF.out.2.2.2.2.2.1.below (al)) (HF.out.2.2.2.2.2.2.below (al))))))))
          replace TQ := hide (TQ.out.below (al))
          have LTrq := hide (BXr.out.lt)
          replace BXr := hide (BXr.out.step al)
          have BXq := hide (Box.new u1 (.bool false) (.slice none 0 0))
          have LT1q := hide (HF.out.2.1.lt)
          have LT2q := hide (HF.out.2.2.1.lt)
          have LT3q := hide (HF.out.2.2.2.1.lt)
          have LT4q := hide (HF.out.2.2.2.2.1.lt)
          have GEq := hide (HF.out.1.size)
          refine hK _ _ (fun _ => HF'.out) ?_
          clear hK K HF al
          have HF := hide HF'.out
          clear HF'
          generalize u1.alloc (.cells #[.bool false, .slice none 0 0] 28) = wzq at *
          generalize u1.heap.size = gq at *
          refine Calm.one (i := 10) (l' := #[true, true, true, true, true, true, true, true, true, true, true, true, true, false, false]) (by kernel_rfl) rfl rfl rfl fun K hK => ?_
          go_simp
          refine (made_any _ (n1 % n2) _ _ HF.out.2.2.2.2.2.2).mono ?_
          rintro e u2 ⟨v, rfl, n, hb⟩
          obtain ⟨sr, mr, kr, cr, rfl, n⟩ := n.cells
          replace TQ := hide (TQ.out.below (hb))
          replace BXr := hide (BXr.out.step hb)
          replace BXq := hide (BXq.out.step hb)
          have HF' := hide (And.intro (HF.out.1.trans ((hb).mono HF.out.1.size)) (And.intro (HF.out.2.1.step (hb)) (And.intro (HF.out.2.2.1.step (hb)) (And.intro (HF.out.2.2.2.1.step (hb)) (And.intro (HF.out.2.2.2.2.1.step (hb)) (And.intro (HF.out.2.2.2.2.2.1.below (hb)) (HF.out.2.2.2.2.2.2.below (hb))))))))
          have TR := hide (n)
          refine hK _ _ (fun _ => HF'.out) ?_
          clear hK K HF hb n
          have HF := hide HF'.out
          clear HF'
          refine Calm.one (i := 13) (l' := #[true, true, true, true, true, true, true, true, true, true, true, true, true, true, false]) (by kernel_rfl) rfl rfl rfl fun K hK => ?_
          have LTS := hide (And.intro LT1q.out (And.intro LT2q.out (And.intro LT3q.out (And.intro LT4q.out (And.intro LT1r.out (And.intro LT2r.out (And.intro LT3r.out (And.intro LT4r.out (show gq ≠ gr by first | exact Nat.ne_of_lt LTqr.out | exact Nat.ne_of_gt LTrq.out)))))))))
          have hc0 := BXq.out.cell0
          have hc1 := BXq.out.cell1
          have hf0 := BXq.out.free 0
          have hf1 := BXq.out.free 1
          go_simp
          have HF' := hide (And.intro (below_put HF.out.1 (show w.heap.size ≤ gq by have hx := LTS.out; omega) (.bool sq) (.slice mq kq cq)) (And.intro (HF.out.2.1.other (C := gq) (by have hx := LTS.out; omega) (.bool sq) (.slice mq kq cq)) (And.intro (HF.out.2.2.1.other (C := gq) (by have hx := LTS.out; omega) (.bool sq) (.slice mq kq cq)) (And.intro (HF.out.2.2.2.1.other (C := gq) (by have hx := LTS.out; omega) (.bool sq) (.slice mq kq cq)) (And.intro (HF.out.2.2.2.2.1.other (C := gq) (by have hx := LTS.out; omega) (.bool sq) (.slice mq kq cq)) (And.intro (BXq.out.keeps (by simp) (by simp) (.bool sq) (.slice mq kq cq) _ _ HF.out.2.2.2.2.2.1) (BXq.out.keeps (by simp) (by simp) (.bool sq) (.slice mq kq cq) _ _ HF.out.2.2.2.2.2.2)))))))
          replace TQ := hide (TQ.out.keep (BXq.out.keeps (by simp) (by simp) (.bool sq) (.slice mq kq cq)))
          replace TR := hide (TR.out.keep (BXq.out.keeps (by simp) (by simp) (.bool sq) (.slice mq kq cq)))
          replace BXr := hide (BXr.out.other (C := gq) (by have hx := LTS.out; omega) (.bool sq) (.slice mq kq cq))
          replace BXq := hide (BXq.out.put (.bool sq) (.slice mq kq cq))
          refine hK _ _ (fun _ => HF'.out) ?_
          clear hK K HF hc0 hc1 hf0 hf1
          have HF := hide HF'.out
          clear HF'
          generalize (u2.setCell ⟨gq, 0, none⟩ (.bool sq)).setCell ⟨gq, 1, none⟩ (.slice mq kq cq) = ws1 at *
          refine Calm.one (i := 14) (l' := #[true, true, true, true, true, true, true, true, true, true, true, true, true, true, true]) (by kernel_rfl) rfl rfl rfl fun K hK => ?_
          have hc0 := BXr.out.cell0
          have hc1 := BXr.out.cell1
          have hf0 := BXr.out.free 0
          have hf1 := BXr.out.free 1
          go_simp
          have HF' := hide (And.intro (below_put HF.out.1 (show w.heap.size ≤ gr by have hx := LTS.out; omega) (.bool sr) (.slice mr kr cr)) (And.intro (HF.out.2.1.other (C := gr) (by have hx := LTS.out; omega) (.bool sr) (.slice mr kr cr)) (And.intro (HF.out.2.2.1.other (C := gr) (by have hx := LTS.out; omega) (.bool sr) (.slice mr kr cr)) (And.intro (HF.out.2.2.2.1.other (C := gr) (by have hx := LTS.out; omega) (.bool sr) (.slice mr kr cr)) (And.intro (HF.out.2.2.2.2.1.other (C := gr) (by have hx := LTS.out; omega) (.bool sr) (.slice mr kr cr)) (And.intro (BXr.out.keeps (by simp) (by simp) (.bool sr) (.slice mr kr cr) _ _ HF.out.2.2.2.2.2.1) (BXr.out.keeps (by simp) (by simp) (.bool sr) (.slice mr kr cr) _ _ HF.out.2.2.2.2.2.2)))))))
          replace TQ := hide (TQ.out.keep (BXr.out.keeps (by simp) (by simp) (.bool sr) (.slice mr kr cr)))
          replace TR := hide (TR.out.keep (BXr.out.keeps (by simp) (by simp) (.bool sr) (.slice mr kr cr)))
          replace BXq := hide (BXq.out.other (C := gr) (by have hx := LTS.out; omega) (.bool sr) (.slice mr kr cr))
          replace BXr := hide (BXr.out.put (.bool sr) (.slice mr kr cr))
          refine hK _ _ (fun _ => HF'.out) ?_
          clear hK K HF hc0 hc1 hf0 hf1
          have HF := hide HF'.out
          clear HF'
          generalize (ws1.setCell ⟨gr, 0, none⟩ (.bool sr)).setCell ⟨gr, 1, none⟩ (.slice mr kr cr) = ws2 at *
          refine Calm.done (by kernel_rfl) ?_
          go_wp2
          go_meet
          case rel => exact ⟨gq, gr, sq, mq, kq, cq, sr, mr, kr, cr, rfl, rfl, LTS.out, HF.out.1, HF.out.2.1, HF.out.2.2.1, HF.out.2.2.2.1, HF.out.2.2.2.2.1, BXq.out, BXr.out, TQ.out, TR.out⟩
      · go_simp
        have al := below_alloc wzr (.cells #[.bool false, .slice none 0 0] 28)
        have HF' := hide (And.intro (HF.out.1.trans ((al).mono HF.out.1.size)) (And.intro (HF.out.2.1.step (al)) (And.intro (HF.out.2.2.1.step (al)) (And.intro (HF.out.2.2.2.1.step (al)) (And.intro (HF.out.2.2.2.2.1.step (al)) (And.intro (HF.out.2.2.2.2.2.1.below (al)) (HF.out.2.2.2.2.2.2.below (al))))))))
        have LTrq := hide (BXr.out.lt)
        replace BXr := hide (BXr.out.step al)
        have BXq := hide (Box.new wzr (.bool false) (.slice none 0 0))
        have LT1q := hide (HF.out.2.1.lt)
        have LT2q := hide (HF.out.2.2.1.lt)
        have LT3q := hide (HF.out.2.2.2.1.lt)
        have LT4q := hide (HF.out.2.2.2.2.1.lt)
        have GEq := hide (HF.out.1.size)
        refine hK _ _ (fun _ => HF'.out) ?_
        clear hK K HF al
        have HF := hide HF'.out
        clear HF'
        generalize wzr.alloc (.cells #[.bool false, .slice none 0 0] 28) = wzq at *
        generalize wzr.heap.size = gq at *
        refine Calm.one (i := 6) (l' := #[true, true, true, true, true, true, true, true, true, true, false, true, true, false, false]) (by kernel_rfl) rfl rfl rfl fun K hK => ?_
        go_simp
        refine (made_any _ (n1 / n2) _ _ HF.out.2.2.2.2.2.1).mono ?_
        rintro e u1 ⟨v, rfl, n, hb⟩
        obtain ⟨sq, mq, kq, cq, rfl, n⟩ := n.cells
        replace BXr := hide (BXr.out.step hb)
        replace BXq := hide (BXq.out.step hb)
        have HF' := hide (And.intro (HF.out.1.trans ((hb).mono HF.out.1.size)) (And.intro (HF.out.2.1.step (hb)) (And.intro (HF.out.2.2.1.step (hb)) (And.intro (HF.out.2.2.2.1.step (hb)) (And.intro (HF.out.2.2.2.2.1.step (hb)) (And.intro (HF.out.2.2.2.2.2.1.below (hb)) (HF.out.2.2.2.2.2.2.below (hb))))))))
        have TQ := hide (n)
        refine hK _ _ (fun _ => HF'.out) ?_
        clear hK K HF hb n
        have HF := hide HF'.out
        clear HF'
        refine Calm.one (i := 10) (l' := #[true, true, true, true, true, true, true, true, true, true, true, true, true, false, false]) (by kernel_rfl) rfl rfl rfl fun K hK => ?_
        go_simp
        refine (made_any _ (n1 % n2) _ _ HF.out.2.2.2.2.2.2).mono ?_
        rintro e u2 ⟨v, rfl, n, hb⟩
        obtain ⟨sr, mr, kr, cr, rfl, n⟩ := n.cells
        replace TQ := hide (TQ.out.below (hb))
        replace BXr := hide (BXr.out.step hb)
        replace BXq := hide (BXq.out.step hb)
        have HF' := hide (And.intro (HF.out.1.trans ((hb).mono HF.out.1.size)) (And.intro (HF.out.2.1.step (hb)) (And.intro (HF.out.2.2.1.step (hb)) (And.intro (HF.out.2.2.2.1.step (hb)) (And.intro (HF.out.2.2.2.2.1.step (hb)) (And.intro (HF.out.2.2.2.2.2.1.below (hb)) (HF.out.2.2.2.2.2.2.below (hb))))))))
        have TR := hide (n)
        refine hK _ _ (fun _ => HF'.out) ?_
        clear hK K HF hb n
        have HF := hide HF'.out
        clear HF'
        refine Calm.one (i := 13) (l' := #[true, true, true, true, true, true, true, true, true, true, true, true, true, true, false]) (by kernel_rfl) rfl rfl rfl fun K hK => ?_
        have LTS := hide (And.intro LT1q.out (And.intro LT2q.out (And.intro LT3q.out (And.intro LT4q.out (And.intro LT1r.out (And.intro LT2r.out (And.intro LT3r.out (And.intro LT4r.out (show gq ≠ gr by first | exact Nat.ne_of_lt LTqr.out | exact Nat.ne_of_gt LTrq.out)))))))))
        have hc0 := BXq.out.cell0
        have hc1 := BXq.out.cell1
        have hf0 := BXq.out.free 0
        have hf1 := BXq.out.free 1
        go_simp
        have HF' := hide (And.intro (below_put HF.out.1 (show w.heap.size ≤ gq by have hx := LTS.out; omega) (.bool sq) (.slice mq kq cq)) (And.intro (HF.out.2.1.other (C := gq) (by have hx := LTS.out; omega) (.bool sq) (.slice mq kq cq)) (And.intro (HF.out.2.2.1.other (C := gq) (by have hx := LTS.out; omega) (.bool sq) (.slice mq kq cq)) (And.intro (HF.out.2.2.2.1.other (C := gq) (by have hx := LTS.out; omega) (.bool sq) (.slice mq kq cq)) (And.intro (HF.out.2.2.2.2.1.other (C := gq) (by have hx := LTS.out; omega) (.bool sq) (.slice mq kq cq)) (And.intro (BXq.out.keeps (by simp) (by simp) (.bool sq) (.slice mq kq cq) _ _ HF.out.2.2.2.2.2.1) (BXq.out.keeps (by simp) (by simp) (.bool sq) (.slice mq kq cq) _ _ HF.out.2.2.2.2.2.2)))))))
        replace TQ := hide (TQ.out.keep (BXq.out.keeps (by simp) (by simp) (.bool sq) (.slice mq kq cq)))
        replace TR := hide (TR.out.keep (BXq.out.keeps (by simp) (by simp) (.bool sq) (.slice mq kq cq)))
        replace BXr := hide (BXr.out.other (C := gq) (by have hx := LTS.out; omega) (.bool sq) (.slice mq kq cq))
        replace BXq := hide (BXq.out.put (.bool sq) (.slice mq kq cq))
        refine hK _ _ (fun _ => HF'.out) ?_
        clear hK K HF hc0 hc1 hf0 hf1
        have HF := hide HF'.out
        clear HF'
        generalize (u2.setCell ⟨gq, 0, none⟩ (.bool sq)).setCell ⟨gq, 1, none⟩ (.slice mq kq cq) = ws1 at *
        refine Calm.one (i := 14) (l' := #[true, true, true, true, true, true, true, true, true, true, true, true, true, true, true]) (by kernel_rfl) rfl rfl rfl fun K hK => ?_
        have hc0 := BXr.out.cell0
        have hc1 := BXr.out.cell1
        have hf0 := BXr.out.free 0
        have hf1 := BXr.out.free 1
        go_simp
        have HF' := hide (And.intro (below_put HF.out.1 (show w.heap.size ≤ gr by have hx := LTS.out; omega) (.bool sr) (.slice mr kr cr)) (And.intro (HF.out.2.1.other (C := gr) (by have hx := LTS.out; omega) (.bool sr) (.slice mr kr cr)) (And.intro (HF.out.2.2.1.other (C := gr) (by have hx := LTS.out; omega) (.bool sr) (.slice mr kr cr)) (And.intro (HF.out.2.2.2.1.other (C := gr) (by have hx := LTS.out; omega) (.bool sr) (.slice mr kr cr)) (And.intro (HF.out.2.2.2.2.1.other (C := gr) (by have hx := LTS.out; omega) (.bool sr) (.slice mr kr cr)) (And.intro (BXr.out.keeps (by simp) (by simp) (.bool sr) (.slice mr kr cr) _ _ HF.out.2.2.2.2.2.1) (BXr.out.keeps (by simp) (by simp) (.bool sr) (.slice mr kr cr) _ _ HF.out.2.2.2.2.2.2)))))))
        replace TQ := hide (TQ.out.keep (BXr.out.keeps (by simp) (by simp) (.bool sr) (.slice mr kr cr)))
        replace TR := hide (TR.out.keep (BXr.out.keeps (by simp) (by simp) (.bool sr) (.slice mr kr cr)))
        replace BXq := hide (BXq.out.other (C := gr) (by have hx := LTS.out; omega) (.bool sr) (.slice mr kr cr))
        replace BXr := hide (BXr.out.put (.bool sr) (.slice mr kr cr))
        refine hK _ _ (fun _ => HF'.out) ?_
        clear hK K HF hc0 hc1 hf0 hf1
        have HF := hide HF'.out
        clear HF'
        generalize (ws1.setCell ⟨gr, 0, none⟩ (.bool sr)).setCell ⟨gr, 1, none⟩ (.slice mr kr cr) = ws2 at *
        refine Calm.done (by kernel_rfl) ?_
        go_wp2
        go_meet
        case rel => exact ⟨gq, gr, sq, mq, kq, cq, sr, mr, kr, cr, rfl, rfl, LTS.out, HF.out.1, HF.out.2.1, HF.out.2.2.1, HF.out.2.2.2.1, HF.out.2.2.2.2.1, BXq.out, BXr.out, TQ.out, TR.out⟩
  case rest =>
  obtain ⟨gq, gr, sq, mq, kq, cq, sr, mr, kr, cr, rfl, rfl, hlts, hB, h1, h2, h3, h4, hq, hr, hiq, hir⟩ := hcut
  have LTS := hide hlts
  clear HB P0 P1 P2 P3 NQ NR
  have HB := hide hB
  have P0 := hide h1
  have P1 := hide h2
  have P2 := hide h3
  have P3 := hide h4
  have PQ := hide hq
  have PR := hide hr
  have IQ := hide hiq
  have IR := hide hir
  clear hlts hB h1 h2 h3 h4 hq hr hiq hir
  generalize hwc : wc = w5 at *
  clear hwc
  have r0 := PR.out.cell0
  have r1 := PR.out.cell1
  go_wp2_with fail
  clear r0 r1
  refine (isign_any _ (sg b1 (n1 % n2)) _ IR.out).mono ?_
  rintro e w6 ⟨rfl, hb⟩
  replace HB := hide (HB.out.trans (hb.mono HB.out.size))
  replace IQ := hide (IQ.out.below hb)
  replace IR := hide (IR.out.below hb)
  replace P0 := hide (P0.out.step hb)
  replace P1 := hide (P1.out.step hb)
  replace P2 := hide (P2.out.step hb)
  replace P3 := hide (P3.out.step hb)
  replace PQ := hide (PQ.out.step hb)
  replace PR := hide (PR.out.step hb)
  clear hb
  by_cases hs : (sg b1 (n1 % n2)) < 0
  · have SG : sgnI (sg b1 (n1 % n2)) = -1 := if_pos hs
    rw [SG]
    clear SG
    have HS := hide hs
    clear hs
    go_wp2_with fail
    replace P2 := hide P2.out.drew
    replace P3 := hide P3.out.drew
    refine wp_calm (fun w' => Below w.heap.size w w' ∧ Box w' w.heap.size (.bool b1) (.slice a1 (lim n1).length c1) ∧ Box w' (w.heap.size + 1) (.bool b2) (.slice a2 (lim n2).length c2) ∧ Box w' gq (.bool sq) (.slice mq kq cq) ∧ Box w' gr (.bool sr) (.slice mr kr cr) ∧ IntAt w' (.agg #[.bool sq, .slice mq kq cq]) (sg (b1 != b2) (n1 / n2)) ∧ IntAt w' (.agg #[.bool sr, .slice mr kr cr]) (sg b1 (n1 % n2)) ∧ IntAt w' (.agg #[.bool b2, .slice a2 (lim n2).length c2]) (sg b2 n2)) (fun _ => true) 12 #[false, false, false, false, false, false, false, false, false, false, false, false] (by kernel_rfl) rfl rfl ?_
    have HF := hide (And.intro (HB.out.drew) (And.intro (P0.out.drew) (And.intro (P1.out.drew) (And.intro (PQ.out.drew) (And.intro (PR.out.drew) (And.intro (IQ.out.drew) (And.intro (IR.out.drew) ((Y2.out.below HB.out).drew))))))))
    generalize w6.drew = w6d at *
    refine Calm.take (i := 0) (v := ?_) (a' := ?_) (l' := #[true, false, false, false, false, false, false, false, false, false, false, false]) (d := some 40) rfl (by kernel_rfl) (by kernel_rfl) (by kernel_rfl) (by kernel_rfl) (fun _ _ _ h => h) HF.out rfl ?_ rfl rfl ?_ ?_
    rotate_left
    · intro w' hF; have f10 := hF.2.1.cell0; have f11 := hF.2.1.cell1; have f20 := hF.2.2.1.cell0; have f21 := hF.2.2.1.cell1; have f30 := hF.2.2.2.1.cell0; have f31 := hF.2.2.2.1.cell1; have f40 := hF.2.2.2.2.1.cell0; have f41 := hF.2.2.2.2.1.cell1; clear hF; go_simp; try rfl
    rotate_left
    · simp only [Act.put]; exact rfl
    refine Calm.take (i := 1) (v := ?_) (a' := ?_) (l' := #[true, true, false, false, false, false, false, false, false, false, false, false]) (d := some 41) rfl (by kernel_rfl) (by kernel_rfl) (by kernel_rfl) (by kernel_rfl) (fun _ _ _ h => h) HF.out rfl ?_ rfl rfl ?_ ?_
    rotate_left
    · intro w' hF; have f10 := hF.2.1.cell0; have f11 := hF.2.1.cell1; have f20 := hF.2.2.1.cell0; have f21 := hF.2.2.1.cell1; have f30 := hF.2.2.2.1.cell0; have f31 := hF.2.2.2.1.cell1; have f40 := hF.2.2.2.2.1.cell0; have f41 := hF.2.2.2.2.1.cell1; clear hF; go_simp; try rfl
    rotate_left
    · simp only [Act.put]; exact rfl
    refine Calm.take (i := 5) (v := ?_) (a' := ?_) (l' := #[true, true, false, false, false, true, false, false, false, false, false, false]) (d := some 45) rfl (by kernel_rfl) (by kernel_rfl) (by kernel_rfl) (by kernel_rfl) (fun _ _ _ h => h) HF.out rfl ?_ rfl rfl ?_ ?_
    rotate_left
    · intro w' hF; have f10 := hF.2.1.cell0; have f11 := hF.2.1.cell1; have f20 := hF.2.2.1.cell0; have f21 := hF.2.2.1.cell1; have f30 := hF.2.2.2.1.cell0; have f31 := hF.2.2.2.1.cell1; have f40 := hF.2.2.2.2.1.cell0; have f41 := hF.2.2.2.2.1.cell1; clear hF; go_simp; try rfl
    rotate_left
    · simp only [Act.put]; exact rfl
    refine Calm.take (i := 6) (v := ?_) (a' := ?_) (l' := #[true, true, false, false, false, true, true, false, false, false, false, false]) (d := some 46) rfl (by kernel_rfl) (by kernel_rfl) (by kernel_rfl) (by kernel_rfl) (fun _ _ _ h => h) HF.out rfl ?_ rfl rfl ?_ ?_
    rotate_left
    · intro w' hF; have f10 := hF.2.1.cell0; have f11 := hF.2.1.cell1; have f20 := hF.2.2.1.cell0; have f21 := hF.2.2.1.cell1; have f30 := hF.2.2.2.1.cell0; have f31 := hF.2.2.2.1.cell1; have f40 := hF.2.2.2.2.1.cell0; have f41 := hF.2.2.2.2.1.cell1; clear hF; go_simp; try rfl
    rotate_left
    · simp only [Act.put]; exact rfl
    refine Calm.one (i := 2) (l' := #[true, true, true, false, false, true, true, false, false, false, false, false]) (by kernel_rfl) rfl rfl rfl fun K hK => ?_
    go_simp
    refine (isign_any _ (sg b2 n2) _ HF.out.2.2.2.2.2.2.2).mono ?_
    rintro e u1 ⟨rfl, hb⟩
    replace P2 := hide (P2.out.step (hb))
    replace P3 := hide (P3.out.step (hb))
    have HF' := hide (And.intro (HF.out.1.trans ((hb).mono HF.out.1.size)) (And.intro (HF.out.2.1.step (hb)) (And.intro (HF.out.2.2.1.step (hb)) (And.intro (HF.out.2.2.2.1.step (hb)) (And.intro (HF.out.2.2.2.2.1.step (hb)) (And.intro (HF.out.2.2.2.2.2.1.below (hb)) (And.intro (HF.out.2.2.2.2.2.2.1.below (hb)) (HF.out.2.2.2.2.2.2.2.below (hb)))))))))
    refine hK _ _ (fun _ => HF'.out) ?_
    clear hK K HF hb
    have HF := hide HF'.out
    clear HF'
    refine Calm.one (i := 3) (l' := #[true, true, true, true, false, true, true, false, false, false, false, false]) (by kernel_rfl) rfl rfl rfl fun K hK => ?_
    go_simp
    refine (iof_any (sgnI (sg b2 n2)) _ (sgnI_lo _) (sgnI_hi _)).mono ?_
    rintro e u2 ⟨v, rfl, n, hb⟩
    replace P2 := hide (P2.out.step (hb))
    replace P3 := hide (P3.out.step (hb))
    have HF' := hide (And.intro (HF.out.1.trans ((hb).mono HF.out.1.size)) (And.intro (HF.out.2.1.step (hb)) (And.intro (HF.out.2.2.1.step (hb)) (And.intro (HF.out.2.2.2.1.step (hb)) (And.intro (HF.out.2.2.2.2.1.step (hb)) (And.intro (HF.out.2.2.2.2.2.1.below (hb)) (And.intro (HF.out.2.2.2.2.2.2.1.below (hb)) (HF.out.2.2.2.2.2.2.2.below (hb)))))))))
    have TS := hide (n)
    refine hK _ _ (fun _ => HF'.out) ?_
    clear hK K HF hb n
    have HF := hide HF'.out
    clear HF'
    refine Calm.one (i := 4) (l' := #[true, true, true, true, true, true, true, false, false, false, false, false]) (by kernel_rfl) rfl rfl rfl fun K hK => ?_
    go_simp
    refine (isub_any _ _ (sg (b1 != b2) (n1 / n2)) (sgnI (sg b2 n2)) _ HF.out.2.2.2.2.2.1 TS.out LQ.out (sgnI_len _)).mono ?_
    rintro e u3 ⟨v, rfl, n, hb⟩
    obtain ⟨s3, m3, k3, c3, rfl, n⟩ := n.cells
    replace P2 := hide (P2.out.step (hb))
    replace P3 := hide (P3.out.step (hb))
    clear TS
    have HF' := hide (And.intro (HF.out.1.trans ((hb).mono HF.out.1.size)) (And.intro (HF.out.2.1.step (hb)) (And.intro (HF.out.2.2.1.step (hb)) (And.intro (HF.out.2.2.2.1.step (hb)) (And.intro (HF.out.2.2.2.2.1.step (hb)) (And.intro (HF.out.2.2.2.2.2.1.below (hb)) (And.intro (HF.out.2.2.2.2.2.2.1.below (hb)) (HF.out.2.2.2.2.2.2.2.below (hb)))))))))
    have TQ := hide (n)
    refine hK _ _ (fun _ => HF'.out) ?_
    clear hK K HF hb n
    have HF := hide HF'.out
    clear HF'
    refine Calm.one (i := 7) (l' := #[true, true, true, true, true, true, true, true, false, false, false, false]) (by kernel_rfl) rfl rfl rfl fun K hK => ?_
    go_simp
    refine (iabs_any _ (sg b2 n2) _ HF.out.2.2.2.2.2.2.2).mono ?_
    rintro e u4 ⟨v, rfl, n, hb⟩
    replace P2 := hide (P2.out.step (hb))
    replace P3 := hide (P3.out.step (hb))
    replace TQ := hide (TQ.out.below (hb))
    have HF' := hide (And.intro (HF.out.1.trans ((hb).mono HF.out.1.size)) (And.intro (HF.out.2.1.step (hb)) (And.intro (HF.out.2.2.1.step (hb)) (And.intro (HF.out.2.2.2.1.step (hb)) (And.intro (HF.out.2.2.2.2.1.step (hb)) (And.intro (HF.out.2.2.2.2.2.1.below (hb)) (And.intro (HF.out.2.2.2.2.2.2.1.below (hb)) (HF.out.2.2.2.2.2.2.2.below (hb)))))))))
    have TA := hide (n)
    refine hK _ _ (fun _ => HF'.out) ?_
    clear hK K HF hb n
    have HF := hide HF'.out
    clear HF'
    refine Calm.one (i := 8) (l' := #[true, true, true, true, true, true, true, true, true, false, false, false]) (by kernel_rfl) rfl rfl rfl fun K hK => ?_
    go_simp
    refine (iadd_any _ _ (sg b1 (n1 % n2)) ((sg b2 n2).natAbs : Int) _ HF.out.2.2.2.2.2.2.1 TA.out LR.out (by rw [Int.natAbs_natCast, sg_abs]; exact l2)).mono ?_
    rintro e u5 ⟨v, rfl, n, hb⟩
    obtain ⟨s4, m4, k4, c4, rfl, n⟩ := n.cells
    replace P2 := hide (P2.out.step (hb))
    replace P3 := hide (P3.out.step (hb))
    replace TQ := hide (TQ.out.below (hb))
    clear TA
    have HF' := hide (And.intro (HF.out.1.trans ((hb).mono HF.out.1.size)) (And.intro (HF.out.2.1.step (hb)) (And.intro (HF.out.2.2.1.step (hb)) (And.intro (HF.out.2.2.2.1.step (hb)) (And.intro (HF.out.2.2.2.2.1.step (hb)) (And.intro (HF.out.2.2.2.2.2.1.below (hb)) (And.intro (HF.out.2.2.2.2.2.2.1.below (hb)) (HF.out.2.2.2.2.2.2.2.below (hb)))))))))
    have TR := hide (n)
    refine hK _ _ (fun _ => HF'.out) ?_
    clear hK K HF hb n
    have HF := hide HF'.out
    clear HF'
    refine Calm.one (i := 9) (l' := #[true, true, true, true, true, true, true, true, true, true, false, false]) (by kernel_rfl) rfl rfl rfl fun K hK => ?_
    have hc0 := P2.out.cell0
    have hc1 := P2.out.cell1
    have hf0 := P2.out.free 0
    have hf1 := P2.out.free 1
    go_simp
    have HF' := hide (And.intro (below_put HF.out.1 (show w.heap.size ≤ (w.heap.size + 1 + 1) by have hx := LTS.out; omega) (.bool s3) (.slice m3 k3 c3)) (And.intro (HF.out.2.1.other (C := (w.heap.size + 1 + 1)) (by have hx := LTS.out; omega) (.bool s3) (.slice m3 k3 c3)) (And.intro (HF.out.2.2.1.other (C := (w.heap.size + 1 + 1)) (by have hx := LTS.out; omega) (.bool s3) (.slice m3 k3 c3)) (And.intro (HF.out.2.2.2.1.other (C := (w.heap.size + 1 + 1)) (by have hx := LTS.out; omega) (.bool s3) (.slice m3 k3 c3)) (And.intro (HF.out.2.2.2.2.1.other (C := (w.heap.size + 1 + 1)) (by have hx := LTS.out; omega) (.bool s3) (.slice m3 k3 c3)) (And.intro (HF.out.2.2.2.2.2.1.keep (P2.out.keeps (by simp) (by simp) (.bool s3) (.slice m3 k3 c3))) (And.intro (HF.out.2.2.2.2.2.2.1.keep (P2.out.keeps (by simp) (by simp) (.bool s3) (.slice m3 k3 c3))) (HF.out.2.2.2.2.2.2.2.keep (P2.out.keeps (by simp) (by simp) (.bool s3) (.slice m3 k3 c3))))))))))
    replace P3 := hide (P3.out.other (C := (w.heap.size + 1 + 1)) (by have hx := LTS.out; omega) (.bool s3) (.slice m3 k3 c3))
    replace TQ := hide (TQ.out.keep (P2.out.keeps (by simp) (by simp) (.bool s3) (.slice m3 k3 c3)))
    replace TR := hide (TR.out.keep (P2.out.keeps (by simp) (by simp) (.bool s3) (.slice m3 k3 c3)))
    replace P2 := hide (P2.out.put (.bool s3) (.slice m3 k3 c3))
    refine hK _ _ (fun _ => HF'.out) ?_
    clear hK K HF hc0 hc1 hf0 hf1
    have HF := hide HF'.out
    clear HF'
    generalize (u5.setCell ⟨(w.heap.size + 1 + 1), 0, none⟩ (.bool s3)).setCell ⟨(w.heap.size + 1 + 1), 1, none⟩ (.slice m3 k3 c3) = ws1 at *
    refine Calm.one (i := 10) (l' := #[true, true, true, true, true, true, true, true, true, true, true, false]) (by kernel_rfl) rfl rfl rfl fun K hK => ?_
    have hc0 := P3.out.cell0
    have hc1 := P3.out.cell1
    have hf0 := P3.out.free 0
    have hf1 := P3.out.free 1
    go_simp
    have HF' := hide (And.intro (below_put HF.out.1 (show w.heap.size ≤ (w.heap.size + 1 + 1 + 1) by have hx := LTS.out; omega) (.bool s4) (.slice m4 k4 c4)) (And.intro (HF.out.2.1.other (C := (w.heap.size + 1 + 1 + 1)) (by have hx := LTS.out; omega) (.bool s4) (.slice m4 k4 c4)) (And.intro (HF.out.2.2.1.other (C := (w.heap.size + 1 + 1 + 1)) (by have hx := LTS.out; omega) (.bool s4) (.slice m4 k4 c4)) (And.intro (HF.out.2.2.2.1.other (C := (w.heap.size + 1 + 1 + 1)) (by have hx := LTS.out; omega) (.bool s4) (.slice m4 k4 c4)) (And.intro (HF.out.2.2.2.2.1.other (C := (w.heap.size + 1 + 1 + 1)) (by have hx := LTS.out; omega) (.bool s4) (.slice m4 k4 c4)) (And.intro (HF.out.2.2.2.2.2.1.keep (P3.out.keeps (by simp) (by simp) (.bool s4) (.slice m4 k4 c4))) (And.intro (HF.out.2.2.2.2.2.2.1.keep (P3.out.keeps (by simp) (by simp) (.bool s4) (.slice m4 k4 c4))) (HF.out.2.2.2.2.2.2.2.keep (P3.out.keeps (by simp) (by simp) (.bool s4) (.slice m4 k4 c4))))))))))
    replace P2 := hide (P2.out.other (C := (w.heap.size + 1 + 1 + 1)) (by have hx := LTS.out; omega) (.bool s4) (.slice m4 k4 c4))
    replace TQ := hide (TQ.out.keep (P3.out.keeps (by simp) (by simp) (.bool s4) (.slice m4 k4 c4)))
    replace TR := hide (TR.out.keep (P3.out.keeps (by simp) (by simp) (.bool s4) (.slice m4 k4 c4)))
    replace P3 := hide (P3.out.put (.bool s4) (.slice m4 k4 c4))
    refine hK _ _ (fun _ => HF'.out) ?_
    clear hK K HF hc0 hc1 hf0 hf1
    have HF := hide HF'.out
    clear HF'
    generalize (ws1.setCell ⟨(w.heap.size + 1 + 1 + 1), 0, none⟩ (.bool s4)).setCell ⟨(w.heap.size + 1 + 1 + 1), 1, none⟩ (.slice m4 k4 c4) = ws2 at *
    refine Calm.take (i := 11) (v := ?_) (a' := ?_) (l' := #[true, true, true, true, true, true, true, true, true, true, true, true]) (d := some 6) rfl (by kernel_rfl) (by kernel_rfl) (by kernel_rfl) (by kernel_rfl) (fun _ _ _ h => h) HF.out rfl ?_ rfl rfl ?_ ?_
    rotate_left
    · intro w' hF; clear hF; go_simp; try rfl
    rotate_left
    · simp only [Act.put]; exact rfl
    refine Calm.done (by kernel_rfl) ?_
    go_wp2
    refine ret_div rfl (w.heap.size + 1 + 1) (w.heap.size + 1 + 1 + 1) _ _ _ _ rfl rfl P2.out P3.out rfl ?_
    exact ⟨_, _, rfl, (div_less b1 b2 n1 n2 hy HS.out).1 ▸ TQ.out, (div_less b1 b2 n1 n2 hy HS.out).2 ▸ TR.out, HF.out.1⟩
  · have SG : (sgnI (sg b1 (n1 % n2)) < 0) = False := by simp only [sgnI, if_neg hs]; split <;> simp
    have SG' : ¬ sgnI (sg b1 (n1 % n2)) < 0 := by rw [SG]; exact id
    clear SG
    have HS := hide hs
    clear hs
    generalize sgnI (sg b1 (n1 % n2)) = sr0 at *
    go_wp2_with fail
    clear SG'
    replace P2 := hide P2.out.drew
    replace P3 := hide P3.out.drew
    refine wp_calm (fun w' => Below w.heap.size w w' ∧ Box w' w.heap.size (.bool b1) (.slice a1 (lim n1).length c1) ∧ Box w' (w.heap.size + 1) (.bool b2) (.slice a2 (lim n2).length c2) ∧ Box w' gq (.bool sq) (.slice mq kq cq) ∧ Box w' gr (.bool sr) (.slice mr kr cr) ∧ IntAt w' (.agg #[.bool sq, .slice mq kq cq]) (sg (b1 != b2) (n1 / n2)) ∧ IntAt w' (.agg #[.bool sr, .slice mr kr cr]) (sg b1 (n1 % n2))) (fun _ => true) 5 #[false, false, false, false, false] (by kernel_rfl) rfl rfl ?_
    have HF := hide (And.intro (HB.out.drew) (And.intro (P0.out.drew) (And.intro (P1.out.drew) (And.intro (PQ.out.drew) (And.intro (PR.out.drew) (And.intro (IQ.out.drew) (IR.out.drew)))))))
    generalize w6.drew = w6d at *
    refine Calm.take (i := 0) (v := ?_) (a' := ?_) (l' := #[true, false, false, false, false]) (d := some 49) rfl (by kernel_rfl) (by kernel_rfl) (by kernel_rfl) (by kernel_rfl) (fun _ _ _ h => h) HF.out rfl ?_ rfl rfl ?_ ?_
    rotate_left
    · intro w' hF; have f10 := hF.2.1.cell0; have f11 := hF.2.1.cell1; have f20 := hF.2.2.1.cell0; have f21 := hF.2.2.1.cell1; have f30 := hF.2.2.2.1.cell0; have f31 := hF.2.2.2.1.cell1; have f40 := hF.2.2.2.2.1.cell0; have f41 := hF.2.2.2.2.1.cell1; clear hF; go_simp; try rfl
    rotate_left
    · simp only [Act.put]; exact rfl
    refine Calm.take (i := 1) (v := ?_) (a' := ?_) (l' := #[true, true, false, false, false]) (d := some 50) rfl (by kernel_rfl) (by kernel_rfl) (by kernel_rfl) (by kernel_rfl) (fun _ _ _ h => h) HF.out rfl ?_ rfl rfl ?_ ?_
    rotate_left
    · intro w' hF; have f10 := hF.2.1.cell0; have f11 := hF.2.1.cell1; have f20 := hF.2.2.1.cell0; have f21 := hF.2.2.1.cell1; have f30 := hF.2.2.2.1.cell0; have f31 := hF.2.2.2.1.cell1; have f40 := hF.2.2.2.2.1.cell0; have f41 := hF.2.2.2.2.1.cell1; clear hF; go_simp; try rfl
    rotate_left
    · simp only [Act.put]; exact rfl
    refine Calm.one (i := 2) (l' := #[true, true, true, false, false]) (by kernel_rfl) rfl rfl rfl fun K hK => ?_
    have hc0 := P2.out.cell0
    have hc1 := P2.out.cell1
    have hf0 := P2.out.free 0
    have hf1 := P2.out.free 1
    go_simp
    have HF' := hide (And.intro (below_put HF.out.1 (show w.heap.size ≤ (w.heap.size + 1 + 1) by have hx := LTS.out; omega) (.bool sq) (.slice mq kq cq)) (And.intro (HF.out.2.1.other (C := (w.heap.size + 1 + 1)) (by have hx := LTS.out; omega) (.bool sq) (.slice mq kq cq)) (And.intro (HF.out.2.2.1.other (C := (w.heap.size + 1 + 1)) (by have hx := LTS.out; omega) (.bool sq) (.slice mq kq cq)) (And.intro (HF.out.2.2.2.1.other (C := (w.heap.size + 1 + 1)) (by have hx := LTS.out; omega) (.bool sq) (.slice mq kq cq)) (And.intro (HF.out.2.2.2.2.1.other (C := (w.heap.size + 1 + 1)) (by have hx := LTS.out; omega) (.bool sq) (.slice mq kq cq)) (And.intro (HF.out.2.2.2.2.2.1.keep (P2.out.keeps (by simp) (by simp) (.bool sq) (.slice mq kq cq))) (HF.out.2.2.2.2.2.2.keep (P2.out.keeps (by simp) (by simp) (.bool sq) (.slice mq kq cq)))))))))
    replace P3 := hide (P3.out.other (C := (w.heap.size + 1 + 1)) (by have hx := LTS.out; omega) (.bool sq) (.slice mq kq cq))
    replace P2 := hide (P2.out.put (.bool sq) (.slice mq kq cq))
    refine hK _ _ (fun _ => HF'.out) ?_
    clear hK K HF hc0 hc1 hf0 hf1
    have HF := hide HF'.out
    clear HF'
    generalize (w6d.setCell ⟨(w.heap.size + 1 + 1), 0, none⟩ (.bool sq)).setCell ⟨(w.heap.size + 1 + 1), 1, none⟩ (.slice mq kq cq) = ws1 at *
    refine Calm.one (i := 3) (l' := #[true, true, true, true, false]) (by kernel_rfl) rfl rfl rfl fun K hK => ?_
    have hc0 := P3.out.cell0
    have hc1 := P3.out.cell1
    have hf0 := P3.out.free 0
    have hf1 := P3.out.free 1
    go_simp
    have HF' := hide (And.intro (below_put HF.out.1 (show w.heap.size ≤ (w.heap.size + 1 + 1 + 1) by have hx := LTS.out; omega) (.bool sr) (.slice mr kr cr)) (And.intro (HF.out.2.1.other (C := (w.heap.size + 1 + 1 + 1)) (by have hx := LTS.out; omega) (.bool sr) (.slice mr kr cr)) (And.intro (HF.out.2.2.1.other (C := (w.heap.size + 1 + 1 + 1)) (by have hx := LTS.out; omega) (.bool sr) (.slice mr kr cr)) (And.intro (HF.out.2.2.2.1.other (C := (w.heap.size + 1 + 1 + 1)) (by have hx := LTS.out; omega) (.bool sr) (.slice mr kr cr)) (And.intro (HF.out.2.2.2.2.1.other (C := (w.heap.size + 1 + 1 + 1)) (by have hx := LTS.out; omega) (.bool sr) (.slice mr kr cr)) (And.intro (HF.out.2.2.2.2.2.1.keep (P3.out.keeps (by simp) (by simp) (.bool sr) (.slice mr kr cr))) (HF.out.2.2.2.2.2.2.keep (P3.out.keeps (by simp) (by simp) (.bool sr) (.slice mr kr cr)))))))))
    replace P2 := hide (P2.out.other (C := (w.heap.size + 1 + 1 + 1)) (by have hx := LTS.out; omega) (.bool sr) (.slice mr kr cr))
    replace P3 := hide (P3.out.put (.bool sr) (.slice mr kr cr))
    refine hK _ _ (fun _ => HF'.out) ?_
    clear hK K HF hc0 hc1 hf0 hf1
    have HF := hide HF'.out
    clear HF'
    generalize (ws1.setCell ⟨(w.heap.size + 1 + 1 + 1), 0, none⟩ (.bool sr)).setCell ⟨(w.heap.size + 1 + 1 + 1), 1, none⟩ (.slice mr kr cr) = ws2 at *
    refine Calm.take (i := 4) (v := ?_) (a' := ?_) (l' := #[true, true, true, true, true]) (d := some 6) rfl (by kernel_rfl) (by kernel_rfl) (by kernel_rfl) (by kernel_rfl) (fun _ _ _ h => h) HF.out rfl ?_ rfl rfl ?_ ?_
    rotate_left
    · intro w' hF; clear hF; go_simp; try rfl
    rotate_left
    · simp only [Act.put]; exact rfl
    refine Calm.done (by kernel_rfl) ?_
    go_wp2
    refine ret_div rfl (w.heap.size + 1 + 1) (w.heap.size + 1 + 1 + 1) _ _ _ _ rfl rfl P2.out P3.out rfl ?_
    exact ⟨_, _, rfl, (div_plain b1 b2 n1 n2 hy (by have := HS.out; omega)).1 ▸ HF.out.2.2.2.2.2.1, (div_plain b1 b2 n1 n2 hy (by have := HS.out; omega)).2 ▸ HF.out.2.2.2.2.2.2, HF.out.1⟩

end Go.Proofs.Ytbaicocncalfaaa
