/- row.Over. -/
import Derived.Test.YtejkjdjobeabfaaWOne
import Derived.Test.YtejkjdjobeabfaaWDot
import Derived.Test.YtejkjdjobeabfaaIDiv
import Derived.Deep.Cut
namespace Go.Proofs.Ytejkjdjobeabfaa
open Go.RowKit

/-- a variable that holds an error's number -/
def BoxE (w : World) (g : Nat) (e : Int) : Prop := w.heap[g]? = some (.cells #[.int .i64 e] 41 (0, 0))
theorem BoxE.cell {w : World} {g : Nat} {e : Int} (h : BoxE w g e) : w.cell? ⟨g, 0, none⟩ = some (.int .i64 e) := by simp [World.cell?, show w.heap[g]? = _ from h]
theorem BoxE.free {w : World} {g : Nat} {e : Int} (h : BoxE w g e) : w.frozen? ⟨g, 0, none⟩ = false := by simp [World.frozen?, show w.heap[g]? = _ from h]
theorem BoxE.lt {w : World} {g : Nat} {e : Int} (h : BoxE w g e) : g < w.heap.size := (Array.getElem?_eq_some_iff.1 h).1
theorem BoxE.step {w w' : World} {g : Nat} {e : Int} (h : BoxE w g e) (hb : Below w.heap.size w w') : BoxE w' g e := (hb.block g h.lt).trans h
theorem BoxE.drew {w : World} {g : Nat} {e : Int} (h : BoxE w g e) : BoxE w.drew g e := h
theorem BoxE.other {w : World} {g C : Nat} {e : Int} (h : BoxE w g e) (hne : C ≠ g) (x y : Value) : BoxE ((w.setCell ⟨C, 0, none⟩ x).setCell ⟨C, 1, none⟩ y) g e := by
  unfold BoxE; rw [Below.heap_setCell _ _ _ _ (Ne.symm hne), Below.heap_setCell _ _ _ _ (Ne.symm hne)]; exact h
theorem BoxE.put {w : World} {g : Nat} {e : Int} (h : BoxE w g e) (e' : Int) : BoxE (w.setCell ⟨g, 0, none⟩ (.int .i64 e')) g e' := by
  unfold BoxE World.setCell
  simp [show w.heap[g]? = _ from h, Array.getElem?_modify]
theorem BoxE.spares {w : World} {g : Nat} {e : Int} (h : BoxE w g e) (v : Value) : Spares w (w.setCell ⟨g, 0, none⟩ v) := Spares.set h.cell (by simp) v
theorem BoxE.new (w : World) (e : Int) : BoxE (w.alloc (.cells #[.int .i64 e] 41)) w.heap.size e := heap_alloc_new _ _
/-- the error behind the first k -/
def overE (xs : List Int) (c : Int) : Nat → Int
  | 0 => 0
  | k + 1 => if xs.getD k 0 % c = 0 then overE xs c k else 20

set_option maxRecDepth 100000 in
set_option maxHeartbeats 8000000 in
theorem over1_any (i : Nat) (ga gc ge : Nat) (va : Value) (xs : List Int) (z e0 : Int) (sc : Bool) (mc : Option Addr) (lc cc k : Nat) (w : World) (hi : i < xs.length)
    (ha : CellAt w ⟨ga, 0, none⟩ va) (h1 : Ints w va xs) (hc : Box w gc (.bool sc) (.slice mc lc cc)) (h2 : IntAt w (.agg #[.bool sc, .slice mc lc cc]) z) (hz : z ≠ 0) (he : BoxE w ge e0) (s1 : SzL k xs) (s2 : SzI k z) (hk : k ≤ 1000000000) :
    Calls Try.prog 53 #[.int .i64 i, .pointer (some ⟨ga, 0, none⟩), .pointer (some ⟨gc, 0, none⟩), .pointer (some ⟨ge, 0, none⟩)] w fun e w' => ∃ v, e = .returned v ∧ IntAt w' v (xs.getD i 0 / z) ∧ BoxE w' ge (if xs.getD i 0 % z = 0 then e0 else 20) ∧ KeptBut ge w w' := by
  obtain ⟨aa, ca, rfl, _, hma, _⟩ := id h1
  obtain ⟨b1, o1, rfl, s, m, l, c, k1, k2, k3⟩ := h1.at hi
  have HP := hide (Box.new w (.bool false) (.slice none 0 0))
  have HB := hide (below_alloc w (.cells #[.bool false, .slice none 0 0] 36))
  have KA := hide (ha.step HB.out)
  have PC := hide (hc.step HB.out)
  have PE := hide (he.step HB.out)
  have K1 := hide (k1.step HB.out)
  have K2 := hide (k2.step HB.out)
  have I1 := hide (k3.below HB.out)
  have I2 := hide (h2.below HB.out)
  have L1 := hide (SzI.len (s1 i) hk)
  have L2 := hide (SzI.len s2 hk)
  have HZ := hide hz
  have GE0 := hide he.lt
  unfold maxLen at hma
  clear ha hc h1 h2 k1 k2 k3 s1 s2 hk hz he
  generalize xs.getD i 0 = x at *
  go_enter Try.func53, Try.ntmps53
  go_wp2_with fail
  generalize w.alloc (.cells #[.bool false, .slice none 0 0] 36) = w0 at *
  go_cut [6, 7] from 8 (fun pq pr wx => ∃ gq gr sq mq nq cq sr mr nr cr, pq = .pointer (some ⟨gq, 0, none⟩) ∧ pr = .pointer (some ⟨gr, 0, none⟩) ∧ (w.heap.size < gq ∧ w.heap.size < gr ∧ gq ≠ gr) ∧ Below w.heap.size w wx ∧ Box wx w.heap.size (.bool false) (.slice none 0 0) ∧ BoxE wx ge e0 ∧ Box wx gq (.bool sq) (.slice mq nq cq) ∧ Box wx gr (.bool sr) (.slice mr nr cr) ∧ IntAt wx (.agg #[.bool sq, .slice mq nq cq]) (x / z) ∧ IntAt wx (.agg #[.bool sr, .slice mr nr cr]) (x % z))
  case first =>
    refine wp_calm (fun w' => Below w.heap.size w w' ∧ Box w' w.heap.size (.bool false) (.slice none 0 0) ∧ CellAt w' ⟨ga, 0, none⟩ (.slice (some ⟨b1, o1, none⟩) xs.length ca) ∧ Box w' gc (.bool sc) (.slice mc lc cc) ∧ BoxE w' ge e0 ∧ CellAt w' ⟨b1, o1 + i * 2, none⟩ (.bool s) ∧ CellAt w' ⟨b1, o1 + i * 2 + 1, none⟩ (.slice m l c) ∧ IntAt w' (.agg #[.bool s, .slice m l c]) x ∧ IntAt w' (.agg #[.bool sc, .slice mc lc cc]) z) (fun _ => true) 15 #[false, false, false, false, false, false, false, false, false, false, false, false, false, false, false] (by kernel_rfl) rfl rfl ?_
    have HF := hide (And.intro (HB.out.drew) (And.intro (HP.out.drew) (And.intro (KA.out.drew) (And.intro (PC.out.drew) (And.intro (PE.out.drew) (And.intro (K1.out.drew) (And.intro (K2.out.drew) (And.intro (I1.out.drew) (I2.out.drew)))))))))
    generalize w0.drew = w0d at *
    refine Calm.take (i := 0) (v := ?_) (a' := ?_) (l' := #[true, false, false, false, false, false, false, false, false, false, false, false, false, false, false]) (d := some 10) rfl (by kernel_rfl) (by kernel_rfl) (by kernel_rfl) (by kernel_rfl) (fun _ _ _ h => h) HF.out rfl ?_ rfl rfl ?_ ?_
    rotate_left
    · intro w' hF; have f10 := hF.2.1.cell0; have f11 := hF.2.1.cell1; have f20 := hF.2.2.1.out; have f30 := hF.2.2.2.1.cell0; have f31 := hF.2.2.2.1.cell1; have f50 := hF.2.2.2.2.2.1.out; have f60 := hF.2.2.2.2.2.2.1.out; clear hF; go_simp; try rfl
    rotate_left
    · simp only [Act.put]; exact rfl
    refine Calm.take (i := 1) (v := ?_) (a' := ?_) (l' := #[true, true, false, false, false, false, false, false, false, false, false, false, false, false, false]) (d := some 11) rfl (by kernel_rfl) (by kernel_rfl) (by kernel_rfl) (by kernel_rfl) (fun _ _ _ h => h) HF.out rfl ?_ rfl rfl ?_ ?_
    rotate_left
    · intro w' hF; clear hF; go_simp; try rfl
    rotate_left
    · simp only [Act.put]; exact rfl
    refine Calm.take (i := 2) (v := ?_) (a' := ?_) (l' := #[true, true, true, false, false, false, false, false, false, false, false, false, false, false, false]) (d := some 12) rfl (by kernel_rfl) (by kernel_rfl) (by kernel_rfl) (by kernel_rfl) (fun _ _ _ h => h) HF.out rfl ?_ rfl rfl ?_ ?_
    rotate_left
    · intro w' hF; clear hF; go_simp; try rfl
    rotate_left
    · simp only [Act.put]; exact rfl
    refine Calm.take (i := 3) (v := ?_) (a' := ?_) (l' := #[true, true, true, true, false, false, false, false, false, false, false, false, false, false, false]) (d := some 13) rfl (by kernel_rfl) (by kernel_rfl) (by kernel_rfl) (by kernel_rfl) (fun _ _ _ h => h) HF.out rfl ?_ rfl rfl ?_ ?_
    rotate_left
    · intro w' hF; have f10 := hF.2.1.cell0; have f11 := hF.2.1.cell1; have f20 := hF.2.2.1.out; have f30 := hF.2.2.2.1.cell0; have f31 := hF.2.2.2.1.cell1; have f50 := hF.2.2.2.2.2.1.out; have f60 := hF.2.2.2.2.2.2.1.out; clear hF; go_simp; try rfl
    rotate_left
    · simp only [Act.put]; exact rfl
    refine Calm.take (i := 4) (v := ?_) (a' := ?_) (l' := #[true, true, true, true, true, false, false, false, false, false, false, false, false, false, false]) (d := some 14) rfl (by kernel_rfl) (by kernel_rfl) (by kernel_rfl) (by kernel_rfl) (fun _ _ _ h => h) HF.out rfl ?_ rfl rfl ?_ ?_
    rotate_left
    · intro w' hF; have f10 := hF.2.1.cell0; have f11 := hF.2.1.cell1; have f20 := hF.2.2.1.out; have f30 := hF.2.2.2.1.cell0; have f31 := hF.2.2.2.1.cell1; have f50 := hF.2.2.2.2.2.1.out; have f60 := hF.2.2.2.2.2.2.1.out; clear hF; go_simp; try rfl
    rotate_left
    · simp only [Act.put]; exact rfl
    refine Calm.three (i := 5) (j := 10) (m := 11) (l := #[true, true, true, true, true, true, false, false, false, false, false, false, false, false, false]) (l' := #[true, true, true, true, true, false, false, false, false, false, true, false, false, false, false]) (l'' := #[true, true, true, true, true, false, false, false, false, false, false, true, false, false, false]) (by kernel_rfl) rfl rfl rfl rfl rfl rfl rfl rfl rfl (fun K hK => ?_) (fun K hK => ?_) (fun K hK => ?_)
    · go_simp
      refine (idivmod_any _ _ x z _ HF.out.2.2.2.2.2.2.2.1 HF.out.2.2.2.2.2.2.2.2 L1.out L2.out HZ.out).mono ?_
      rintro e u1 ⟨a, b, rfl, na, nb, hb⟩
      obtain ⟨sq, mq, nq, cq, rfl, na⟩ := na.cells
      obtain ⟨sr, mr, nr, cr, rfl, nb⟩ := nb.cells
      have HF' := hide (And.intro (HF.out.1.trans ((hb).mono HF.out.1.size)) (And.intro (HF.out.2.1.step (hb)) (And.intro (HF.out.2.2.1.step (hb)) (And.intro (HF.out.2.2.2.1.step (hb)) (And.intro (HF.out.2.2.2.2.1.step (hb)) (And.intro (HF.out.2.2.2.2.2.1.step (hb)) (And.intro (HF.out.2.2.2.2.2.2.1.step (hb)) (And.intro (HF.out.2.2.2.2.2.2.2.1.below (hb)) (HF.out.2.2.2.2.2.2.2.2.below (hb))))))))))
      have TQ := hide (na)
      have TR := hide (nb)
      refine hK _ _ (fun _ => HF'.out) ?_
      clear hK K HF hb na nb
      have HF := hide HF'.out
      clear HF'
      refine Calm.take (i := 6) (v := ?_) (a' := ?_) (l' := #[true, true, true, true, true, true, true, false, false, false, false, false, false, false, false]) (d := some 9) rfl (by kernel_rfl) (by kernel_rfl) (by kernel_rfl) (by kernel_rfl) (fun _ _ _ h => h) HF.out rfl ?_ rfl rfl ?_ ?_
      rotate_left
      · intro w' hF; clear hF; go_simp; try rfl
      rotate_left
      · simp only [Act.put]; exact rfl
      refine Calm.take (i := 7) (v := ?_) (a' := ?_) (l' := #[true, true, true, true, true, true, true, true, false, false, false, false, false, false, false]) (d := some 16) rfl (by kernel_rfl) (by kernel_rfl) (by kernel_rfl) (by kernel_rfl) (fun _ _ _ h => h) HF.out rfl ?_ rfl rfl ?_ ?_
      rotate_left
      · intro w' hF; clear hF; go_simp; try rfl
      rotate_left
      · simp only [Act.put]; exact rfl
      refine Calm.take (i := 8) (v := ?_) (a' := ?_) (l' := #[true, true, true, true, true, true, true, true, true, false, false, false, false, false, false]) (d := some 17) rfl (by kernel_rfl) (by kernel_rfl) (by kernel_rfl) (by kernel_rfl) (fun _ _ _ h => h) HF.out rfl ?_ rfl rfl ?_ ?_
      rotate_left
      · intro w' hF; clear hF; go_simp; try rfl
      rotate_left
      · simp only [Act.put]; exact rfl
      refine Calm.take (i := 9) (v := ?_) (a' := ?_) (l' := #[true, true, true, true, true, true, true, true, true, true, false, false, false, false, false]) (d := some 18) rfl (by kernel_rfl) (by kernel_rfl) (by kernel_rfl) (by kernel_rfl) (fun _ _ _ h => h) HF.out rfl ?_ rfl rfl ?_ ?_
      rotate_left
      · intro w' hF; clear hF; go_simp; try rfl
      rotate_left
      · simp only [Act.put]; exact rfl
      refine Calm.two (i := 10) (j := 11) (l := #[true, true, true, true, true, true, true, true, true, true, true, false, false, false, false]) (l' := #[true, true, true, true, true, true, true, true, true, true, false, true, false, false, false]) (by kernel_rfl) rfl rfl rfl rfl rfl rfl (fun K hK => ?_) (fun K hK => ?_)
      · go_simp
        have al := below_alloc u1 (.cells #[.bool false, .slice none 0 0] 36)
        have HF' := hide (And.intro (HF.out.1.trans ((al).mono HF.out.1.size)) (And.intro (HF.out.2.1.step (al)) (And.intro (HF.out.2.2.1.step (al)) (And.intro (HF.out.2.2.2.1.step (al)) (And.intro (HF.out.2.2.2.2.1.step (al)) (And.intro (HF.out.2.2.2.2.2.1.step (al)) (And.intro (HF.out.2.2.2.2.2.2.1.step (al)) (And.intro (HF.out.2.2.2.2.2.2.2.1.below (al)) (HF.out.2.2.2.2.2.2.2.2.below (al))))))))))
        have BXq := hide (Box.new u1 (.bool false) (.slice none 0 0))
        replace TQ := hide (TQ.out.below (al))
        replace TR := hide (TR.out.below (al))
        have LT1q := hide (HF.out.2.1.lt)
        have LT2q := hide (HF.out.2.2.1.blt)
        have LT3q := hide (HF.out.2.2.2.1.lt)
        have LT4q := hide (HF.out.2.2.2.2.1.lt)
        have LT5q := hide (HF.out.2.2.2.2.2.1.blt)
        have LT6q := hide (HF.out.2.2.2.2.2.2.1.blt)
        have GEq := hide (HF.out.1.size)
        refine hK _ _ (fun _ => HF'.out) ?_
        clear hK K HF al
        have HF := hide HF'.out
        clear HF'
        generalize u1.alloc (.cells #[.bool false, .slice none 0 0] 36) = wzq at *
        generalize u1.heap.size = gq at *
        refine Calm.one (i := 11) (l' := #[true, true, true, true, true, true, true, true, true, true, true, true, false, false, false]) (by kernel_rfl) rfl rfl rfl fun K hK => ?_
        go_simp
        have al := below_alloc wzq (.cells #[.bool false, .slice none 0 0] 36)
        have HF' := hide (And.intro (HF.out.1.trans ((al).mono HF.out.1.size)) (And.intro (HF.out.2.1.step (al)) (And.intro (HF.out.2.2.1.step (al)) (And.intro (HF.out.2.2.2.1.step (al)) (And.intro (HF.out.2.2.2.2.1.step (al)) (And.intro (HF.out.2.2.2.2.2.1.step (al)) (And.intro (HF.out.2.2.2.2.2.2.1.step (al)) (And.intro (HF.out.2.2.2.2.2.2.2.1.below (al)) (HF.out.2.2.2.2.2.2.2.2.below (al))))))))))
        have BXr := hide (Box.new wzq (.bool false) (.slice none 0 0))
        replace TQ := hide (TQ.out.below (al))
        replace TR := hide (TR.out.below (al))
        have LTqr := hide (BXq.out.lt)
        replace BXq := hide (BXq.out.step al)
        have LT1r := hide (HF.out.2.1.lt)
        have LT2r := hide (HF.out.2.2.1.blt)
        have LT3r := hide (HF.out.2.2.2.1.lt)
        have LT4r := hide (HF.out.2.2.2.2.1.lt)
        have LT5r := hide (HF.out.2.2.2.2.2.1.blt)
        have LT6r := hide (HF.out.2.2.2.2.2.2.1.blt)
        have GEr := hide (HF.out.1.size)
        refine hK _ _ (fun _ => HF'.out) ?_
        clear hK K HF al
        have HF := hide HF'.out
        clear HF'
        generalize wzq.alloc (.cells #[.bool false, .slice none 0 0] 36) = wzr at *
        generalize wzq.heap.size = gr at *
        refine Calm.one (i := 12) (l' := #[true, true, true, true, true, true, true, true, true, true, true, true, true, false, false]) (by kernel_rfl) rfl rfl rfl fun K hK => ?_
        have LTS := hide (And.intro (LT1q.out) (And.intro (LT2q.out) (And.intro (LT3q.out) (And.intro (LT4q.out) (And.intro (LT5q.out) (And.intro (LT6q.out) (And.intro (LT1r.out) (And.intro (LT2r.out) (And.intro (LT3r.out) (And.intro (LT4r.out) (And.intro (LT5r.out) (And.intro (LT6r.out) (And.intro (GEq.out) (And.intro (GEr.out) ((show gq ≠ gr by first | exact Nat.ne_of_lt LTqr.out | exact Nat.ne_of_gt LTrq.out))))))))))))))))
        have hc0 := BXq.out.cell0
        have hc1 := BXq.out.cell1
        have hf0 := BXq.out.free 0
        have hf1 := BXq.out.free 1
        go_simp
        have HF' := hide (And.intro (below_put HF.out.1 (show w.heap.size ≤ gq by have hx := LTS.out; omega) (.bool sq) (.slice mq nq cq)) (And.intro (HF.out.2.1.other (C := gq) (by have hx := LTS.out; omega) (.bool sq) (.slice mq nq cq)) (And.intro (HF.out.2.2.1.put (B := gq) (show ga ≠ gq by have hx := LTS.out; omega) (.bool sq) (.slice mq nq cq)) (And.intro (HF.out.2.2.2.1.other (C := gq) (by have hx := LTS.out; omega) (.bool sq) (.slice mq nq cq)) (And.intro (HF.out.2.2.2.2.1.other (C := gq) (by have hx := LTS.out; omega) (.bool sq) (.slice mq nq cq)) (And.intro (HF.out.2.2.2.2.2.1.put (B := gq) (show b1 ≠ gq by have hx := LTS.out; omega) (.bool sq) (.slice mq nq cq)) (And.intro (HF.out.2.2.2.2.2.2.1.put (B := gq) (show b1 ≠ gq by have hx := LTS.out; omega) (.bool sq) (.slice mq nq cq)) (And.intro (HF.out.2.2.2.2.2.2.2.1.keep (BXq.out.keeps (by simp) (by simp) (.bool sq) (.slice mq nq cq))) (HF.out.2.2.2.2.2.2.2.2.keep (BXq.out.keeps (by simp) (by simp) (.bool sq) (.slice mq nq cq)))))))))))
        replace TQ := hide (TQ.out.keep (BXq.out.keeps (by simp) (by simp) (.bool sq) (.slice mq nq cq)))
        replace TR := hide (TR.out.keep (BXq.out.keeps (by simp) (by simp) (.bool sq) (.slice mq nq cq)))
        replace BXr := hide (BXr.out.other (C := gq) (by have hx := LTS.out; omega) (.bool sq) (.slice mq nq cq))
        replace BXq := hide (BXq.out.put (.bool sq) (.slice mq nq cq))
        refine hK _ _ (fun _ => HF'.out) ?_
        clear hK K HF hc0 hf0 hc1 hf1
        have HF := hide HF'.out
        clear HF'
        generalize ((wzr.setCell ⟨gq, 0, none⟩ (.bool sq)).setCell ⟨gq, 1, none⟩ (.slice mq nq cq)) = ws1 at *
        refine Calm.one (i := 13) (l' := #[true, true, true, true, true, true, true, true, true, true, true, true, true, true, false]) (by kernel_rfl) rfl rfl rfl fun K hK => ?_
        have hc0 := BXr.out.cell0
        have hc1 := BXr.out.cell1
        have hf0 := BXr.out.free 0
        have hf1 := BXr.out.free 1
        go_simp
        have HF' := hide (And.intro (below_put HF.out.1 (show w.heap.size ≤ gr by have hx := LTS.out; omega) (.bool sr) (.slice mr nr cr)) (And.intro (HF.out.2.1.other (C := gr) (by have hx := LTS.out; omega) (.bool sr) (.slice mr nr cr)) (And.intro (HF.out.2.2.1.put (B := gr) (show ga ≠ gr by have hx := LTS.out; omega) (.bool sr) (.slice mr nr cr)) (And.intro (HF.out.2.2.2.1.other (C := gr) (by have hx := LTS.out; omega) (.bool sr) (.slice mr nr cr)) (And.intro (HF.out.2.2.2.2.1.other (C := gr) (by have hx := LTS.out; omega) (.bool sr) (.slice mr nr cr)) (And.intro (HF.out.2.2.2.2.2.1.put (B := gr) (show b1 ≠ gr by have hx := LTS.out; omega) (.bool sr) (.slice mr nr cr)) (And.intro (HF.out.2.2.2.2.2.2.1.put (B := gr) (show b1 ≠ gr by have hx := LTS.out; omega) (.bool sr) (.slice mr nr cr)) (And.intro (HF.out.2.2.2.2.2.2.2.1.keep (BXr.out.keeps (by simp) (by simp) (.bool sr) (.slice mr nr cr))) (HF.out.2.2.2.2.2.2.2.2.keep (BXr.out.keeps (by simp) (by simp) (.bool sr) (.slice mr nr cr)))))))))))
        replace TQ := hide (TQ.out.keep (BXr.out.keeps (by simp) (by simp) (.bool sr) (.slice mr nr cr)))
        replace TR := hide (TR.out.keep (BXr.out.keeps (by simp) (by simp) (.bool sr) (.slice mr nr cr)))
        replace BXq := hide (BXq.out.other (C := gr) (by have hx := LTS.out; omega) (.bool sr) (.slice mr nr cr))
        replace BXr := hide (BXr.out.put (.bool sr) (.slice mr nr cr))
        refine hK _ _ (fun _ => HF'.out) ?_
        clear hK K HF hc0 hf0 hc1 hf1
        have HF := hide HF'.out
        clear HF'
        generalize ((ws1.setCell ⟨gr, 0, none⟩ (.bool sr)).setCell ⟨gr, 1, none⟩ (.slice mr nr cr)) = ws2 at *
        refine Calm.take (i := 14) (v := ?_) (a' := ?_) (l' := #[true, true, true, true, true, true, true, true, true, true, true, true, true, true, true]) (d := some 8) rfl (by kernel_rfl) (by kernel_rfl) (by kernel_rfl) (by kernel_rfl) (fun _ _ _ h => h) HF.out rfl ?_ rfl rfl ?_ ?_
        rotate_left
        · intro w' hF; clear hF; go_simp; try rfl
        rotate_left
        · simp only [Act.put]; exact rfl
        refine Calm.done (by kernel_rfl) ?_
        go_wp2
        go_meet
        case rel => exact ⟨gq, gr, sq, mq, nq, cq, sr, mr, nr, cr, rfl, rfl, (by have hx := LTS.out; omega), HF.out.1, HF.out.2.1, HF.out.2.2.2.2.1, BXq.out, BXr.out, TQ.out, TR.out⟩
      · go_simp
        have al := below_alloc u1 (.cells #[.bool false, .slice none 0 0] 36)
        have HF' := hide (And.intro (HF.out.1.trans ((al).mono HF.out.1.size)) (And.intro (HF.out.2.1.step (al)) (And.intro (HF.out.2.2.1.step (al)) (And.intro (HF.out.2.2.2.1.step (al)) (And.intro (HF.out.2.2.2.2.1.step (al)) (And.intro (HF.out.2.2.2.2.2.1.step (al)) (And.intro (HF.out.2.2.2.2.2.2.1.step (al)) (And.intro (HF.out.2.2.2.2.2.2.2.1.below (al)) (HF.out.2.2.2.2.2.2.2.2.below (al))))))))))
        have BXr := hide (Box.new u1 (.bool false) (.slice none 0 0))
        replace TQ := hide (TQ.out.below (al))
        replace TR := hide (TR.out.below (al))
        have LT1r := hide (HF.out.2.1.lt)
        have LT2r := hide (HF.out.2.2.1.blt)
        have LT3r := hide (HF.out.2.2.2.1.lt)
        have LT4r := hide (HF.out.2.2.2.2.1.lt)
        have LT5r := hide (HF.out.2.2.2.2.2.1.blt)
        have LT6r := hide (HF.out.2.2.2.2.2.2.1.blt)
        have GEr := hide (HF.out.1.size)
        refine hK _ _ (fun _ => HF'.out) ?_
        clear hK K HF al
        have HF := hide HF'.out
        clear HF'
        generalize u1.alloc (.cells #[.bool false, .slice none 0 0] 36) = wzr at *
        generalize u1.heap.size = gr at *
        refine Calm.one (i := 10) (l' := #[true, true, true, true, true, true, true, true, true, true, true, true, false, false, false]) (by kernel_rfl) rfl rfl rfl fun K hK => ?_
        go_simp
        have al := below_alloc wzr (.cells #[.bool false, .slice none 0 0] 36)
        have HF' := hide (And.intro (HF.out.1.trans ((al).mono HF.out.1.size)) (And.intro (HF.out.2.1.step (al)) (And.intro (HF.out.2.2.1.step (al)) (And.intro (HF.out.2.2.2.1.step (al)) (And.intro (HF.out.2.2.2.2.1.step (al)) (And.intro (HF.out.2.2.2.2.2.1.step (al)) (And.intro (HF.out.2.2.2.2.2.2.1.step (al)) (And.intro (HF.out.2.2.2.2.2.2.2.1.below (al)) (HF.out.2.2.2.2.2.2.2.2.below (al))))))))))
        have BXq := hide (Box.new wzr (.bool false) (.slice none 0 0))
        replace TQ := hide (TQ.out.below (al))
        replace TR := hide (TR.out.below (al))
        have LTrq := hide (BXr.out.lt)
        replace BXr := hide (BXr.out.step al)
        have LT1q := hide (HF.out.2.1.lt)
        have LT2q := hide (HF.out.2.2.1.blt)
        have LT3q := hide (HF.out.2.2.2.1.lt)
        have LT4q := hide (HF.out.2.2.2.2.1.lt)
        have LT5q := hide (HF.out.2.2.2.2.2.1.blt)
        have LT6q := hide (HF.out.2.2.2.2.2.2.1.blt)
        have GEq := hide (HF.out.1.size)
        refine hK _ _ (fun _ => HF'.out) ?_
        clear hK K HF al
        have HF := hide HF'.out
        clear HF'
        generalize wzr.alloc (.cells #[.bool false, .slice none 0 0] 36) = wzq at *
        generalize wzr.heap.size = gq at *
        refine Calm.one (i := 12) (l' := #[true, true, true, true, true, true, true, true, true, true, true, true, true, false, false]) (by kernel_rfl) rfl rfl rfl fun K hK => ?_
        have LTS := hide (And.intro (LT1q.out) (And.intro (LT2q.out) (And.intro (LT3q.out) (And.intro (LT4q.out) (And.intro (LT5q.out) (And.intro (LT6q.out) (And.intro (LT1r.out) (And.intro (LT2r.out) (And.intro (LT3r.out) (And.intro (LT4r.out) (And.intro (LT5r.out) (And.intro (LT6r.out) (And.intro (GEq.out) (And.intro (GEr.out) ((show gq ≠ gr by first | exact Nat.ne_of_lt LTqr.out | exact Nat.ne_of_gt LTrq.out))))))))))))))))
        have hc0 := BXq.out.cell0
        have hc1 := BXq.out.cell1
        have hf0 := BXq.out.free 0
        have hf1 := BXq.out.free 1
        go_simp
        have HF' := hide (And.intro (below_put HF.out.1 (show w.heap.size ≤ gq by have hx := LTS.out; omega) (.bool sq) (.slice mq nq cq)) (And.intro (HF.out.2.1.other (C := gq) (by have hx := LTS.out; omega) (.bool sq) (.slice mq nq cq)) (And.intro (HF.out.2.2.1.put (B := gq) (show ga ≠ gq by have hx := LTS.out; omega) (.bool sq) (.slice mq nq cq)) (And.intro (HF.out.2.2.2.1.other (C := gq) (by have hx := LTS.out; omega) (.bool sq) (.slice mq nq cq)) (And.intro (HF.out.2.2.2.2.1.other (C := gq) (by have hx := LTS.out; omega) (.bool sq) (.slice mq nq cq)) (And.intro (HF.out.2.2.2.2.2.1.put (B := gq) (show b1 ≠ gq by have hx := LTS.out; omega) (.bool sq) (.slice mq nq cq)) (And.intro (HF.out.2.2.2.2.2.2.1.put (B := gq) (show b1 ≠ gq by have hx := LTS.out; omega) (.bool sq) (.slice mq nq cq)) (And.intro (HF.out.2.2.2.2.2.2.2.1.keep (BXq.out.keeps (by simp) (by simp) (.bool sq) (.slice mq nq cq))) (HF.out.2.2.2.2.2.2.2.2.keep (BXq.out.keeps (by simp) (by simp) (.bool sq) (.slice mq nq cq)))))))))))
        replace TQ := hide (TQ.out.keep (BXq.out.keeps (by simp) (by simp) (.bool sq) (.slice mq nq cq)))
        replace TR := hide (TR.out.keep (BXq.out.keeps (by simp) (by simp) (.bool sq) (.slice mq nq cq)))
        replace BXr := hide (BXr.out.other (C := gq) (by have hx := LTS.out; omega) (.bool sq) (.slice mq nq cq))
        replace BXq := hide (BXq.out.put (.bool sq) (.slice mq nq cq))
        refine hK _ _ (fun _ => HF'.out) ?_
        clear hK K HF hc0 hf0 hc1 hf1
        have HF := hide HF'.out
        clear HF'
        generalize ((wzq.setCell ⟨gq, 0, none⟩ (.bool sq)).setCell ⟨gq, 1, none⟩ (.slice mq nq cq)) = ws1 at *
        refine Calm.one (i := 13) (l' := #[true, true, true, true, true, true, true, true, true, true, true, true, true, true, false]) (by kernel_rfl) rfl rfl rfl fun K hK => ?_
        have hc0 := BXr.out.cell0
        have hc1 := BXr.out.cell1
        have hf0 := BXr.out.free 0
        have hf1 := BXr.out.free 1
        go_simp
        have HF' := hide (And.intro (below_put HF.out.1 (show w.heap.size ≤ gr by have hx := LTS.out; omega) (.bool sr) (.slice mr nr cr)) (And.intro (HF.out.2.1.other (C := gr) (by have hx := LTS.out; omega) (.bool sr) (.slice mr nr cr)) (And.intro (HF.out.2.2.1.put (B := gr) (show ga ≠ gr by have hx := LTS.out; omega) (.bool sr) (.slice mr nr cr)) (And.intro (HF.out.2.2.2.1.other (C := gr) (by have hx := LTS.out; omega) (.bool sr) (.slice mr nr cr)) (And.intro (HF.out.2.2.2.2.1.other (C := gr) (by have hx := LTS.out; omega) (.bool sr) (.slice mr nr cr)) (And.intro (HF.out.2.2.2.2.2.1.put (B := gr) (show b1 ≠ gr by have hx := LTS.out; omega) (.bool sr) (.slice mr nr cr)) (And.intro (HF.out.2.2.2.2.2.2.1.put (B := gr) (show b1 ≠ gr by have hx := LTS.out; omega) (.bool sr) (.slice mr nr cr)) (And.intro (HF.out.2.2.2.2.2.2.2.1.keep (BXr.out.keeps (by simp) (by simp) (.bool sr) (.slice mr nr cr))) (HF.out.2.2.2.2.2.2.2.2.keep (BXr.out.keeps (by simp) (by simp) (.bool sr) (.slice mr nr cr)))))))))))
        replace TQ := hide (TQ.out.keep (BXr.out.keeps (by simp) (by simp) (.bool sr) (.slice mr nr cr)))
        replace TR := hide (TR.out.keep (BXr.out.keeps (by simp) (by simp) (.bool sr) (.slice mr nr cr)))
        replace BXq := hide (BXq.out.other (C := gr) (by have hx := LTS.out; omega) (.bool sr) (.slice mr nr cr))
        replace BXr := hide (BXr.out.put (.bool sr) (.slice mr nr cr))
        refine hK _ _ (fun _ => HF'.out) ?_
        clear hK K HF hc0 hf0 hc1 hf1
        have HF := hide HF'.out
        clear HF'
        generalize ((ws1.setCell ⟨gr, 0, none⟩ (.bool sr)).setCell ⟨gr, 1, none⟩ (.slice mr nr cr)) = ws2 at *
        refine Calm.take (i := 14) (v := ?_) (a' := ?_) (l' := #[true, true, true, true, true, true, true, true, true, true, true, true, true, true, true]) (d := some 8) rfl (by kernel_rfl) (by kernel_rfl) (by kernel_rfl) (by kernel_rfl) (fun _ _ _ h => h) HF.out rfl ?_ rfl rfl ?_ ?_
        rotate_left
        · intro w' hF; clear hF; go_simp; try rfl
        rotate_left
        · simp only [Act.put]; exact rfl
        refine Calm.done (by kernel_rfl) ?_
        go_wp2
        go_meet
        case rel => exact ⟨gq, gr, sq, mq, nq, cq, sr, mr, nr, cr, rfl, rfl, (by have hx := LTS.out; omega), HF.out.1, HF.out.2.1, HF.out.2.2.2.2.1, BXq.out, BXr.out, TQ.out, TR.out⟩
    · go_simp
      have al := below_alloc w0d (.cells #[.bool false, .slice none 0 0] 36)
      have HF' := hide (And.intro (HF.out.1.trans ((al).mono HF.out.1.size)) (And.intro (HF.out.2.1.step (al)) (And.intro (HF.out.2.2.1.step (al)) (And.intro (HF.out.2.2.2.1.step (al)) (And.intro (HF.out.2.2.2.2.1.step (al)) (And.intro (HF.out.2.2.2.2.2.1.step (al)) (And.intro (HF.out.2.2.2.2.2.2.1.step (al)) (And.intro (HF.out.2.2.2.2.2.2.2.1.below (al)) (HF.out.2.2.2.2.2.2.2.2.below (al))))))))))
      have BXq := hide (Box.new w0d (.bool false) (.slice none 0 0))
      have LT1q := hide (HF.out.2.1.lt)
      have LT2q := hide (HF.out.2.2.1.blt)
      have LT3q := hide (HF.out.2.2.2.1.lt)
      have LT4q := hide (HF.out.2.2.2.2.1.lt)
      have LT5q := hide (HF.out.2.2.2.2.2.1.blt)
      have LT6q := hide (HF.out.2.2.2.2.2.2.1.blt)
      have GEq := hide (HF.out.1.size)
      refine hK _ _ (fun _ => HF'.out) ?_
      clear hK K HF al
      have HF := hide HF'.out
      clear HF'
      generalize w0d.alloc (.cells #[.bool false, .slice none 0 0] 36) = wzq at *
      generalize w0d.heap.size = gq at *
      refine Calm.two (i := 5) (j := 11) (l := #[true, true, true, true, true, true, false, false, false, false, true, false, false, false, false]) (l' := #[true, true, true, true, true, false, false, false, false, false, true, true, false, false, false]) (by kernel_rfl) rfl rfl rfl rfl rfl rfl (fun K hK => ?_) (fun K hK => ?_)
      · go_simp
        refine (idivmod_any _ _ x z _ HF.out.2.2.2.2.2.2.2.1 HF.out.2.2.2.2.2.2.2.2 L1.out L2.out HZ.out).mono ?_
        rintro e u1 ⟨a, b, rfl, na, nb, hb⟩
        obtain ⟨sq, mq, nq, cq, rfl, na⟩ := na.cells
        obtain ⟨sr, mr, nr, cr, rfl, nb⟩ := nb.cells
        replace BXq := hide (BXq.out.step hb)
        have HF' := hide (And.intro (HF.out.1.trans ((hb).mono HF.out.1.size)) (And.intro (HF.out.2.1.step (hb)) (And.intro (HF.out.2.2.1.step (hb)) (And.intro (HF.out.2.2.2.1.step (hb)) (And.intro (HF.out.2.2.2.2.1.step (hb)) (And.intro (HF.out.2.2.2.2.2.1.step (hb)) (And.intro (HF.out.2.2.2.2.2.2.1.step (hb)) (And.intro (HF.out.2.2.2.2.2.2.2.1.below (hb)) (HF.out.2.2.2.2.2.2.2.2.below (hb))))))))))
        have TQ := hide (na)
        have TR := hide (nb)
        refine hK _ _ (fun _ => HF'.out) ?_
        clear hK K HF hb na nb
        have HF := hide HF'.out
        clear HF'
        refine Calm.take (i := 6) (v := ?_) (a' := ?_) (l' := #[true, true, true, true, true, true, true, false, false, false, true, false, false, false, false]) (d := some 9) rfl (by kernel_rfl) (by kernel_rfl) (by kernel_rfl) (by kernel_rfl) (fun _ _ _ h => h) HF.out rfl ?_ rfl rfl ?_ ?_
        rotate_left
        · intro w' hF; clear hF; go_simp; try rfl
        rotate_left
        · simp only [Act.put]; exact rfl
        refine Calm.take (i := 7) (v := ?_) (a' := ?_) (l' := #[true, true, true, true, true, true, true, true, false, false, true, false, false, false, false]) (d := some 16) rfl (by kernel_rfl) (by kernel_rfl) (by kernel_rfl) (by kernel_rfl) (fun _ _ _ h => h) HF.out rfl ?_ rfl rfl ?_ ?_
        rotate_left
        · intro w' hF; clear hF; go_simp; try rfl
        rotate_left
        · simp only [Act.put]; exact rfl
        refine Calm.take (i := 8) (v := ?_) (a' := ?_) (l' := #[true, true, true, true, true, true, true, true, true, false, true, false, false, false, false]) (d := some 17) rfl (by kernel_rfl) (by kernel_rfl) (by kernel_rfl) (by kernel_rfl) (fun _ _ _ h => h) HF.out rfl ?_ rfl rfl ?_ ?_
        rotate_left
        · intro w' hF; clear hF; go_simp; try rfl
        rotate_left
        · simp only [Act.put]; exact rfl
        refine Calm.take (i := 9) (v := ?_) (a' := ?_) (l' := #[true, true, true, true, true, true, true, true, true, true, true, false, false, false, false]) (d := some 18) rfl (by kernel_rfl) (by kernel_rfl) (by kernel_rfl) (by kernel_rfl) (fun _ _ _ h => h) HF.out rfl ?_ rfl rfl ?_ ?_
        rotate_left
        · intro w' hF; clear hF; go_simp; try rfl
        rotate_left
        · simp only [Act.put]; exact rfl
        refine Calm.one (i := 11) (l' := #[true, true, true, true, true, true, true, true, true, true, true, true, false, false, false]) (by kernel_rfl) rfl rfl rfl fun K hK => ?_
        go_simp
        have al := below_alloc u1 (.cells #[.bool false, .slice none 0 0] 36)
        have HF' := hide (And.intro (HF.out.1.trans ((al).mono HF.out.1.size)) (And.intro (HF.out.2.1.step (al)) (And.intro (HF.out.2.2.1.step (al)) (And.intro (HF.out.2.2.2.1.step (al)) (And.intro (HF.out.2.2.2.2.1.step (al)) (And.intro (HF.out.2.2.2.2.2.1.step (al)) (And.intro (HF.out.2.2.2.2.2.2.1.step (al)) (And.intro (HF.out.2.2.2.2.2.2.2.1.below (al)) (HF.out.2.2.2.2.2.2.2.2.below (al))))))))))
        have BXr := hide (Box.new u1 (.bool false) (.slice none 0 0))
        replace TQ := hide (TQ.out.below (al))
        replace TR := hide (TR.out.below (al))
        have LTqr := hide (BXq.out.lt)
        replace BXq := hide (BXq.out.step al)
        have LT1r := hide (HF.out.2.1.lt)
        have LT2r := hide (HF.out.2.2.1.blt)
        have LT3r := hide (HF.out.2.2.2.1.lt)
        have LT4r := hide (HF.out.2.2.2.2.1.lt)
        have LT5r := hide (HF.out.2.2.2.2.2.1.blt)
        have LT6r := hide (HF.out.2.2.2.2.2.2.1.blt)
        have GEr := hide (HF.out.1.size)
        refine hK _ _ (fun _ => HF'.out) ?_
        clear hK K HF al
        have HF := hide HF'.out
        clear HF'
        generalize u1.alloc (.cells #[.bool false, .slice none 0 0] 36) = wzr at *
        generalize u1.heap.size = gr at *
        refine Calm.one (i := 12) (l' := #[true, true, true, true, true, true, true, true, true, true, true, true, true, false, false]) (by kernel_rfl) rfl rfl rfl fun K hK => ?_
        have LTS := hide (And.intro (LT1q.out) (And.intro (LT2q.out) (And.intro (LT3q.out) (And.intro (LT4q.out) (And.intro (LT5q.out) (And.intro (LT6q.out) (And.intro (LT1r.out) (And.intro (LT2r.out) (And.intro (LT3r.out) (And.intro (LT4r.out) (And.intro (LT5r.out) (And.intro (LT6r.out) (And.intro (GEq.out) (And.intro (GEr.out) ((show gq ≠ gr by first | exact Nat.ne_of_lt LTqr.out | exact Nat.ne_of_gt LTrq.out))))))))))))))))
        have hc0 := BXq.out.cell0
        have hc1 := BXq.out.cell1
        have hf0 := BXq.out.free 0
        have hf1 := BXq.out.free 1
        go_simp
        have HF' := hide (And.intro (below_put HF.out.1 (show w.heap.size ≤ gq by have hx := LTS.out; omega) (.bool sq) (.slice mq nq cq)) (And.intro (HF.out.2.1.other (C := gq) (by have hx := LTS.out; omega) (.bool sq) (.slice mq nq cq)) (And.intro (HF.out.2.2.1.put (B := gq) (show ga ≠ gq by have hx := LTS.out; omega) (.bool sq) (.slice mq nq cq)) (And.intro (HF.out.2.2.2.1.other (C := gq) (by have hx := LTS.out; omega) (.bool sq) (.slice mq nq cq)) (And.intro (HF.out.2.2.2.2.1.other (C := gq) (by have hx := LTS.out; omega) (.bool sq) (.slice mq nq cq)) (And.intro (HF.out.2.2.2.2.2.1.put (B := gq) (show b1 ≠ gq by have hx := LTS.out; omega) (.bool sq) (.slice mq nq cq)) (And.intro (HF.out.2.2.2.2.2.2.1.put (B := gq) (show b1 ≠ gq by have hx := LTS.out; omega) (.bool sq) (.slice mq nq cq)) (And.intro (HF.out.2.2.2.2.2.2.2.1.keep (BXq.out.keeps (by simp) (by simp) (.bool sq) (.slice mq nq cq))) (HF.out.2.2.2.2.2.2.2.2.keep (BXq.out.keeps (by simp) (by simp) (.bool sq) (.slice mq nq cq)))))))))))
        replace TQ := hide (TQ.out.keep (BXq.out.keeps (by simp) (by simp) (.bool sq) (.slice mq nq cq)))
        replace TR := hide (TR.out.keep (BXq.out.keeps (by simp) (by simp) (.bool sq) (.slice mq nq cq)))
        replace BXr := hide (BXr.out.other (C := gq) (by have hx := LTS.out; omega) (.bool sq) (.slice mq nq cq))
        replace BXq := hide (BXq.out.put (.bool sq) (.slice mq nq cq))
        refine hK _ _ (fun _ => HF'.out) ?_
        clear hK K HF hc0 hf0 hc1 hf1
        have HF := hide HF'.out
        clear HF'
        generalize ((wzr.setCell ⟨gq, 0, none⟩ (.bool sq)).setCell ⟨gq, 1, none⟩ (.slice mq nq cq)) = ws1 at *
        refine Calm.one (i := 13) (l' := #[true, true, true, true, true, true, true, true, true, true, true, true, true, true, false]) (by kernel_rfl) rfl rfl rfl fun K hK => ?_
        have hc0 := BXr.out.cell0
        have hc1 := BXr.out.cell1
        have hf0 := BXr.out.free 0
        have hf1 := BXr.out.free 1
        go_simp
        have HF' := hide (And.intro (below_put HF.out.1 (show w.heap.size ≤ gr by have hx := LTS.out; omega) (.bool sr) (.slice mr nr cr)) (And.intro (HF.out.2.1.other (C := gr) (by have hx := LTS.out; omega) (.bool sr) (.slice mr nr cr)) (And.intro (HF.out.2.2.1.put (B := gr) (show ga ≠ gr by have hx := LTS.out; omega) (.bool sr) (.slice mr nr cr)) (And.intro (HF.out.2.2.2.1.other (C := gr) (by have hx := LTS.out; omega) (.bool sr) (.slice mr nr cr)) (And.intro (HF.out.2.2.2.2.1.other (C := gr) (by have hx := LTS.out; omega) (.bool sr) (.slice mr nr cr)) (And.intro (HF.out.2.2.2.2.2.1.put (B := gr) (show b1 ≠ gr by have hx := LTS.out; omega) (.bool sr) (.slice mr nr cr)) (And.intro (HF.out.2.2.2.2.2.2.1.put (B := gr) (show b1 ≠ gr by have hx := LTS.out; omega) (.bool sr) (.slice mr nr cr)) (And.intro (HF.out.2.2.2.2.2.2.2.1.keep (BXr.out.keeps (by simp) (by simp) (.bool sr) (.slice mr nr cr))) (HF.out.2.2.2.2.2.2.2.2.keep (BXr.out.keeps (by simp) (by simp) (.bool sr) (.slice mr nr cr)))))))))))
        replace TQ := hide (TQ.out.keep (BXr.out.keeps (by simp) (by simp) (.bool sr) (.slice mr nr cr)))
        replace TR := hide (TR.out.keep (BXr.out.keeps (by simp) (by simp) (.bool sr) (.slice mr nr cr)))
        replace BXq := hide (BXq.out.other (C := gr) (by have hx := LTS.out; omega) (.bool sr) (.slice mr nr cr))
        replace BXr := hide (BXr.out.put (.bool sr) (.slice mr nr cr))
        refine hK _ _ (fun _ => HF'.out) ?_
        clear hK K HF hc0 hf0 hc1 hf1
        have HF := hide HF'.out
        clear HF'
        generalize ((ws1.setCell ⟨gr, 0, none⟩ (.bool sr)).setCell ⟨gr, 1, none⟩ (.slice mr nr cr)) = ws2 at *
        refine Calm.take (i := 14) (v := ?_) (a' := ?_) (l' := #[true, true, true, true, true, true, true, true, true, true, true, true, true, true, true]) (d := some 8) rfl (by kernel_rfl) (by kernel_rfl) (by kernel_rfl) (by kernel_rfl) (fun _ _ _ h => h) HF.out rfl ?_ rfl rfl ?_ ?_
        rotate_left
        · intro w' hF; clear hF; go_simp; try rfl
        rotate_left
        · simp only [Act.put]; exact rfl
        refine Calm.done (by kernel_rfl) ?_
        go_wp2
        go_meet
        case rel => exact ⟨gq, gr, sq, mq, nq, cq, sr, mr, nr, cr, rfl, rfl, (by have hx := LTS.out; omega), HF.out.1, HF.out.2.1, HF.out.2.2.2.2.1, BXq.out, BXr.out, TQ.out, TR.out⟩
      · go_simp
        have al := below_alloc wzq (.cells #[.bool false, .slice none 0 0] 36)
        have HF' := hide (And.intro (HF.out.1.trans ((al).mono HF.out.1.size)) (And.intro (HF.out.2.1.step (al)) (And.intro (HF.out.2.2.1.step (al)) (And.intro (HF.out.2.2.2.1.step (al)) (And.intro (HF.out.2.2.2.2.1.step (al)) (And.intro (HF.out.2.2.2.2.2.1.step (al)) (And.intro (HF.out.2.2.2.2.2.2.1.step (al)) (And.intro (HF.out.2.2.2.2.2.2.2.1.below (al)) (HF.out.2.2.2.2.2.2.2.2.below (al))))))))))
        have BXr := hide (Box.new wzq (.bool false) (.slice none 0 0))
        have LTqr := hide (BXq.out.lt)
        replace BXq := hide (BXq.out.step al)
        have LT1r := hide (HF.out.2.1.lt)
        have LT2r := hide (HF.out.2.2.1.blt)
        have LT3r := hide (HF.out.2.2.2.1.lt)
        have LT4r := hide (HF.out.2.2.2.2.1.lt)
        have LT5r := hide (HF.out.2.2.2.2.2.1.blt)
        have LT6r := hide (HF.out.2.2.2.2.2.2.1.blt)
        have GEr := hide (HF.out.1.size)
        refine hK _ _ (fun _ => HF'.out) ?_
        clear hK K HF al
        have HF := hide HF'.out
        clear HF'
        generalize wzq.alloc (.cells #[.bool false, .slice none 0 0] 36) = wzr at *
        generalize wzq.heap.size = gr at *
        refine Calm.one (i := 5) (l' := #[true, true, true, true, true, true, false, false, false, false, true, true, false, false, false]) (by kernel_rfl) rfl rfl rfl fun K hK => ?_
        go_simp
        refine (idivmod_any _ _ x z _ HF.out.2.2.2.2.2.2.2.1 HF.out.2.2.2.2.2.2.2.2 L1.out L2.out HZ.out).mono ?_
        rintro e u1 ⟨a, b, rfl, na, nb, hb⟩
        obtain ⟨sq, mq, nq, cq, rfl, na⟩ := na.cells
        obtain ⟨sr, mr, nr, cr, rfl, nb⟩ := nb.cells
        replace BXq := hide (BXq.out.step hb)
        replace BXr := hide (BXr.out.step hb)
        have HF' := hide (And.intro (HF.out.1.trans ((hb).mono HF.out.1.size)) (And.intro (HF.out.2.1.step (hb)) (And.intro (HF.out.2.2.1.step (hb)) (And.intro (HF.out.2.2.2.1.step (hb)) (And.intro (HF.out.2.2.2.2.1.step (hb)) (And.intro (HF.out.2.2.2.2.2.1.step (hb)) (And.intro (HF.out.2.2.2.2.2.2.1.step (hb)) (And.intro (HF.out.2.2.2.2.2.2.2.1.below (hb)) (HF.out.2.2.2.2.2.2.2.2.below (hb))))))))))
        have TQ := hide (na)
        have TR := hide (nb)
        refine hK _ _ (fun _ => HF'.out) ?_
        clear hK K HF hb na nb
        have HF := hide HF'.out
        clear HF'
        refine Calm.take (i := 6) (v := ?_) (a' := ?_) (l' := #[true, true, true, true, true, true, true, false, false, false, true, true, false, false, false]) (d := some 9) rfl (by kernel_rfl) (by kernel_rfl) (by kernel_rfl) (by kernel_rfl) (fun _ _ _ h => h) HF.out rfl ?_ rfl rfl ?_ ?_
        rotate_left
        · intro w' hF; clear hF; go_simp; try rfl
        rotate_left
        · simp only [Act.put]; exact rfl
        refine Calm.take (i := 7) (v := ?_) (a' := ?_) (l' := #[true, true, true, true, true, true, true, true, false, false, true, true, false, false, false]) (d := some 16) rfl (by kernel_rfl) (by kernel_rfl) (by kernel_rfl) (by kernel_rfl) (fun _ _ _ h => h) HF.out rfl ?_ rfl rfl ?_ ?_
        rotate_left
        · intro w' hF; clear hF; go_simp; try rfl
        rotate_left
        · simp only [Act.put]; exact rfl
        refine Calm.take (i := 8) (v := ?_) (a' := ?_) (l' := #[true, true, true, true, true, true, true, true, true, false, true, true, false, false, false]) (d := some 17) rfl (by kernel_rfl) (by kernel_rfl) (by kernel_rfl) (by kernel_rfl) (fun _ _ _ h => h) HF.out rfl ?_ rfl rfl ?_ ?_
        rotate_left
        · intro w' hF; clear hF; go_simp; try rfl
        rotate_left
        · simp only [Act.put]; exact rfl
        refine Calm.take (i := 9) (v := ?_) (a' := ?_) (l' := #[true, true, true, true, true, true, true, true, true, true, true, true, false, false, false]) (d := some 18) rfl (by kernel_rfl) (by kernel_rfl) (by kernel_rfl) (by kernel_rfl) (fun _ _ _ h => h) HF.out rfl ?_ rfl rfl ?_ ?_
        rotate_left
        · intro w' hF; clear hF; go_simp; try rfl
        rotate_left
        · simp only [Act.put]; exact rfl
        refine Calm.one (i := 12) (l' := #[true, true, true, true, true, true, true, true, true, true, true, true, true, false, false]) (by kernel_rfl) rfl rfl rfl fun K hK => ?_
        have LTS := hide (And.intro (LT1q.out) (And.intro (LT2q.out) (And.intro (LT3q.out) (And.intro (LT4q.out) (And.intro (LT5q.out) (And.intro (LT6q.out) (And.intro (LT1r.out) (And.intro (LT2r.out) (And.intro (LT3r.out) (And.intro (LT4r.out) (And.intro (LT5r.out) (And.intro (LT6r.out) (And.intro (GEq.out) (And.intro (GEr.out) ((show gq ≠ gr by first | exact Nat.ne_of_lt LTqr.out | exact Nat.ne_of_gt LTrq.out))))))))))))))))
        have hc0 := BXq.out.cell0
        have hc1 := BXq.out.cell1
        have hf0 := BXq.out.free 0
        have hf1 := BXq.out.free 1
        go_simp
        have HF' := hide (And.intro (below_put HF.out.1 (show w.heap.size ≤ gq by have hx := LTS.out; omega) (.bool sq) (.slice mq nq cq)) (And.intro (HF.out.2.1.other (C := gq) (by have hx := LTS.out; omega) (.bool sq) (.slice mq nq cq)) (And.intro (HF.out.2.2.1.put (B := gq) (show ga ≠ gq by have hx := LTS.out; omega) (.bool sq) (.slice mq nq cq)) (And.intro (HF.out.2.2.2.1.other (C := gq) (by have hx := LTS.out; omega) (.bool sq) (.slice mq nq cq)) (And.intro (HF.out.2.2.2.2.1.other (C := gq) (by have hx := LTS.out; omega) (.bool sq) (.slice mq nq cq)) (And.intro (HF.out.2.2.2.2.2.1.put (B := gq) (show b1 ≠ gq by have hx := LTS.out; omega) (.bool sq) (.slice mq nq cq)) (And.intro (HF.out.2.2.2.2.2.2.1.put (B := gq) (show b1 ≠ gq by have hx := LTS.out; omega) (.bool sq) (.slice mq nq cq)) (And.intro (HF.out.2.2.2.2.2.2.2.1.keep (BXq.out.keeps (by simp) (by simp) (.bool sq) (.slice mq nq cq))) (HF.out.2.2.2.2.2.2.2.2.keep (BXq.out.keeps (by simp) (by simp) (.bool sq) (.slice mq nq cq)))))))))))
        replace TQ := hide (TQ.out.keep (BXq.out.keeps (by simp) (by simp) (.bool sq) (.slice mq nq cq)))
        replace TR := hide (TR.out.keep (BXq.out.keeps (by simp) (by simp) (.bool sq) (.slice mq nq cq)))
        replace BXr := hide (BXr.out.other (C := gq) (by have hx := LTS.out; omega) (.bool sq) (.slice mq nq cq))
        replace BXq := hide (BXq.out.put (.bool sq) (.slice mq nq cq))
        refine hK _ _ (fun _ => HF'.out) ?_
        clear hK K HF hc0 hf0 hc1 hf1
        have HF := hide HF'.out
        clear HF'
        generalize ((u1.setCell ⟨gq, 0, none⟩ (.bool sq)).setCell ⟨gq, 1, none⟩ (.slice mq nq cq)) = ws1 at *
        refine Calm.one (i := 13) (l' := #[true, true, true, true, true, true, true, true, true, true, true, true, true, true, false]) (by kernel_rfl) rfl rfl rfl fun K hK => ?_
        have hc0 := BXr.out.cell0
        have hc1 := BXr.out.cell1
        have hf0 := BXr.out.free 0
        have hf1 := BXr.out.free 1
        go_simp
        have HF' := hide (And.intro (below_put HF.out.1 (show w.heap.size ≤ gr by have hx := LTS.out; omega) (.bool sr) (.slice mr nr cr)) (And.intro (HF.out.2.1.other (C := gr) (by have hx := LTS.out; omega) (.bool sr) (.slice mr nr cr)) (And.intro (HF.out.2.2.1.put (B := gr) (show ga ≠ gr by have hx := LTS.out; omega) (.bool sr) (.slice mr nr cr)) (And.intro (HF.out.2.2.2.1.other (C := gr) (by have hx := LTS.out; omega) (.bool sr) (.slice mr nr cr)) (And.intro (HF.out.2.2.2.2.1.other (C := gr) (by have hx := LTS.out; omega) (.bool sr) (.slice mr nr cr)) (And.intro (HF.out.2.2.2.2.2.1.put (B := gr) (show b1 ≠ gr by have hx := LTS.out; omega) (.bool sr) (.slice mr nr cr)) (And.intro (HF.out.2.2.2.2.2.2.1.put (B := gr) (show b1 ≠ gr by have hx := LTS.out; omega) (.bool sr) (.slice mr nr cr)) (And.intro (HF.out.2.2.2.2.2.2.2.1.keep (BXr.out.keeps (by simp) (by simp) (.bool sr) (.slice mr nr cr))) (HF.out.2.2.2.2.2.2.2.2.keep (BXr.out.keeps (by simp) (by simp) (.bool sr) (.slice mr nr cr)))))))))))
        replace TQ := hide (TQ.out.keep (BXr.out.keeps (by simp) (by simp) (.bool sr) (.slice mr nr cr)))
        replace TR := hide (TR.out.keep (BXr.out.keeps (by simp) (by simp) (.bool sr) (.slice mr nr cr)))
        replace BXq := hide (BXq.out.other (C := gr) (by have hx := LTS.out; omega) (.bool sr) (.slice mr nr cr))
        replace BXr := hide (BXr.out.put (.bool sr) (.slice mr nr cr))
        refine hK _ _ (fun _ => HF'.out) ?_
        clear hK K HF hc0 hf0 hc1 hf1
        have HF := hide HF'.out
        clear HF'
        generalize ((ws1.setCell ⟨gr, 0, none⟩ (.bool sr)).setCell ⟨gr, 1, none⟩ (.slice mr nr cr)) = ws2 at *
        refine Calm.take (i := 14) (v := ?_) (a' := ?_) (l' := #[true, true, true, true, true, true, true, true, true, true, true, true, true, true, true]) (d := some 8) rfl (by kernel_rfl) (by kernel_rfl) (by kernel_rfl) (by kernel_rfl) (fun _ _ _ h => h) HF.out rfl ?_ rfl rfl ?_ ?_
        rotate_left
        · intro w' hF; clear hF; go_simp; try rfl
        rotate_left
        · simp only [Act.put]; exact rfl
        refine Calm.done (by kernel_rfl) ?_
        go_wp2
        go_meet
        case rel => exact ⟨gq, gr, sq, mq, nq, cq, sr, mr, nr, cr, rfl, rfl, (by have hx := LTS.out; omega), HF.out.1, HF.out.2.1, HF.out.2.2.2.2.1, BXq.out, BXr.out, TQ.out, TR.out⟩
    · go_simp
      have al := below_alloc w0d (.cells #[.bool false, .slice none 0 0] 36)
      have HF' := hide (And.intro (HF.out.1.trans ((al).mono HF.out.1.size)) (And.intro (HF.out.2.1.step (al)) (And.intro (HF.out.2.2.1.step (al)) (And.intro (HF.out.2.2.2.1.step (al)) (And.intro (HF.out.2.2.2.2.1.step (al)) (And.intro (HF.out.2.2.2.2.2.1.step (al)) (And.intro (HF.out.2.2.2.2.2.2.1.step (al)) (And.intro (HF.out.2.2.2.2.2.2.2.1.below (al)) (HF.out.2.2.2.2.2.2.2.2.below (al))))))))))
      have BXr := hide (Box.new w0d (.bool false) (.slice none 0 0))
      have LT1r := hide (HF.out.2.1.lt)
      have LT2r := hide (HF.out.2.2.1.blt)
      have LT3r := hide (HF.out.2.2.2.1.lt)
      have LT4r := hide (HF.out.2.2.2.2.1.lt)
      have LT5r := hide (HF.out.2.2.2.2.2.1.blt)
      have LT6r := hide (HF.out.2.2.2.2.2.2.1.blt)
      have GEr := hide (HF.out.1.size)
      refine hK _ _ (fun _ => HF'.out) ?_
      clear hK K HF al
      have HF := hide HF'.out
      clear HF'
      generalize w0d.alloc (.cells #[.bool false, .slice none 0 0] 36) = wzr at *
      generalize w0d.heap.size = gr at *
      refine Calm.two (i := 5) (j := 10) (l := #[true, true, true, true, true, true, false, false, false, false, false, true, false, false, false]) (l' := #[true, true, true, true, true, false, false, false, false, false, true, true, false, false, false]) (by kernel_rfl) rfl rfl rfl rfl rfl rfl (fun K hK => ?_) (fun K hK => ?_)
      · go_simp
        refine (idivmod_any _ _ x z _ HF.out.2.2.2.2.2.2.2.1 HF.out.2.2.2.2.2.2.2.2 L1.out L2.out HZ.out).mono ?_
        rintro e u1 ⟨a, b, rfl, na, nb, hb⟩
        obtain ⟨sq, mq, nq, cq, rfl, na⟩ := na.cells
        obtain ⟨sr, mr, nr, cr, rfl, nb⟩ := nb.cells
        replace BXr := hide (BXr.out.step hb)
        have HF' := hide (And.intro (HF.out.1.trans ((hb).mono HF.out.1.size)) (And.intro (HF.out.2.1.step (hb)) (And.intro (HF.out.2.2.1.step (hb)) (And.intro (HF.out.2.2.2.1.step (hb)) (And.intro (HF.out.2.2.2.2.1.step (hb)) (And.intro (HF.out.2.2.2.2.2.1.step (hb)) (And.intro (HF.out.2.2.2.2.2.2.1.step (hb)) (And.intro (HF.out.2.2.2.2.2.2.2.1.below (hb)) (HF.out.2.2.2.2.2.2.2.2.below (hb))))))))))
        have TQ := hide (na)
        have TR := hide (nb)
        refine hK _ _ (fun _ => HF'.out) ?_
        clear hK K HF hb na nb
        have HF := hide HF'.out
        clear HF'
        refine Calm.take (i := 6) (v := ?_) (a' := ?_) (l' := #[true, true, true, true, true, true, true, false, false, false, false, true, false, false, false]) (d := some 9) rfl (by kernel_rfl) (by kernel_rfl) (by kernel_rfl) (by kernel_rfl) (fun _ _ _ h => h) HF.out rfl ?_ rfl rfl ?_ ?_
        rotate_left
        · intro w' hF; clear hF; go_simp; try rfl
        rotate_left
        · simp only [Act.put]; exact rfl
        refine Calm.take (i := 7) (v := ?_) (a' := ?_) (l' := #[true, true, true, true, true, true, true, true, false, false, false, true, false, false, false]) (d := some 16) rfl (by kernel_rfl) (by kernel_rfl) (by kernel_rfl) (by kernel_rfl) (fun _ _ _ h => h) HF.out rfl ?_ rfl rfl ?_ ?_
        rotate_left
        · intro w' hF; clear hF; go_simp; try rfl
        rotate_left
        · simp only [Act.put]; exact rfl
        refine Calm.take (i := 8) (v := ?_) (a' := ?_) (l' := #[true, true, true, true, true, true, true, true, true, false, false, true, false, false, false]) (d := some 17) rfl (by kernel_rfl) (by kernel_rfl) (by kernel_rfl) (by kernel_rfl) (fun _ _ _ h => h) HF.out rfl ?_ rfl rfl ?_ ?_
        rotate_left
        · intro w' hF; clear hF; go_simp; try rfl
        rotate_left
        · simp only [Act.put]; exact rfl
        refine Calm.take (i := 9) (v := ?_) (a' := ?_) (l' := #[true, true, true, true, true, true, true, true, true, true, false, true, false, false, false]) (d := some 18) rfl (by kernel_rfl) (by kernel_rfl) (by kernel_rfl) (by kernel_rfl) (fun _ _ _ h => h) HF.out rfl ?_ rfl rfl ?_ ?_
        rotate_left
        · intro w' hF; clear hF; go_simp; try rfl
        rotate_left
        · simp only [Act.put]; exact rfl
        refine Calm.one (i := 10) (l' := #[true, true, true, true, true, true, true, true, true, true, true, true, false, false, false]) (by kernel_rfl) rfl rfl rfl fun K hK => ?_
        go_simp
        have al := below_alloc u1 (.cells #[.bool false, .slice none 0 0] 36)
        have HF' := hide (And.intro (HF.out.1.trans ((al).mono HF.out.1.size)) (And.intro (HF.out.2.1.step (al)) (And.intro (HF.out.2.2.1.step (al)) (And.intro (HF.out.2.2.2.1.step (al)) (And.intro (HF.out.2.2.2.2.1.step (al)) (And.intro (HF.out.2.2.2.2.2.1.step (al)) (And.intro (HF.out.2.2.2.2.2.2.1.step (al)) (And.intro (HF.out.2.2.2.2.2.2.2.1.below (al)) (HF.out.2.2.2.2.2.2.2.2.below (al))))))))))
        have BXq := hide (Box.new u1 (.bool false) (.slice none 0 0))
        replace TQ := hide (TQ.out.below (al))
        replace TR := hide (TR.out.below (al))
        have LTrq := hide (BXr.out.lt)
        replace BXr := hide (BXr.out.step al)
        have LT1q := hide (HF.out.2.1.lt)
        have LT2q := hide (HF.out.2.2.1.blt)
        have LT3q := hide (HF.out.2.2.2.1.lt)
        have LT4q := hide (HF.out.2.2.2.2.1.lt)
        have LT5q := hide (HF.out.2.2.2.2.2.1.blt)
        have LT6q := hide (HF.out.2.2.2.2.2.2.1.blt)
        have GEq := hide (HF.out.1.size)
        refine hK _ _ (fun _ => HF'.out) ?_
        clear hK K HF al
        have HF := hide HF'.out
        clear HF'
        generalize u1.alloc (.cells #[.bool false, .slice none 0 0] 36) = wzq at *
        generalize u1.heap.size = gq at *
        refine Calm.one (i := 12) (l' := #[true, true, true, true, true, true, true, true, true, true, true, true, true, false, false]) (by kernel_rfl) rfl rfl rfl fun K hK => ?_
        have LTS := hide (And.intro (LT1q.out) (And.intro (LT2q.out) (And.intro (LT3q.out) (And.intro (LT4q.out) (And.intro (LT5q.out) (And.intro (LT6q.out) (And.intro (LT1r.out) (And.intro (LT2r.out) (And.intro (LT3r.out) (And.intro (LT4r.out) (And.intro (LT5r.out) (And.intro (LT6r.out) (And.intro (GEq.out) (And.intro (GEr.out) ((show gq ≠ gr by first | exact Nat.ne_of_lt LTqr.out | exact Nat.ne_of_gt LTrq.out))))))))))))))))
        have hc0 := BXq.out.cell0
        have hc1 := BXq.out.cell1
        have hf0 := BXq.out.free 0
        have hf1 := BXq.out.free 1
        go_simp
        have HF' := hide (And.intro (below_put HF.out.1 (show w.heap.size ≤ gq by have hx := LTS.out; omega) (.bool sq) (.slice mq nq cq)) (And.intro (HF.out.2.1.other (C := gq) (by have hx := LTS.out; omega) (.bool sq) (.slice mq nq cq)) (And.intro (HF.out.2.2.1.put (B := gq) (show ga ≠ gq by have hx := LTS.out; omega) (.bool sq) (.slice mq nq cq)) (And.intro (HF.out.2.2.2.1.other (C := gq) (by have hx := LTS.out; omega) (.bool sq) (.slice mq nq cq)) (And.intro (HF.out.2.2.2.2.1.other (C := gq) (by have hx := LTS.out; omega) (.bool sq) (.slice mq nq cq)) (And.intro (HF.out.2.2.2.2.2.1.put (B := gq) (show b1 ≠ gq by have hx := LTS.out; omega) (.bool sq) (.slice mq nq cq)) (And.intro (HF.out.2.2.2.2.2.2.1.put (B := gq) (show b1 ≠ gq by have hx := LTS.out; omega) (.bool sq) (.slice mq nq cq)) (And.intro (HF.out.2.2.2.2.2.2.2.1.keep (BXq.out.keeps (by simp) (by simp) (.bool sq) (.slice mq nq cq))) (HF.out.2.2.2.2.2.2.2.2.keep (BXq.out.keeps (by simp) (by simp) (.bool sq) (.slice mq nq cq)))))))))))
        replace TQ := hide (TQ.out.keep (BXq.out.keeps (by simp) (by simp) (.bool sq) (.slice mq nq cq)))
        replace TR := hide (TR.out.keep (BXq.out.keeps (by simp) (by simp) (.bool sq) (.slice mq nq cq)))
        replace BXr := hide (BXr.out.other (C := gq) (by have hx := LTS.out; omega) (.bool sq) (.slice mq nq cq))
        replace BXq := hide (BXq.out.put (.bool sq) (.slice mq nq cq))
        refine hK _ _ (fun _ => HF'.out) ?_
        clear hK K HF hc0 hf0 hc1 hf1
        have HF := hide HF'.out
        clear HF'
        generalize ((wzq.setCell ⟨gq, 0, none⟩ (.bool sq)).setCell ⟨gq, 1, none⟩ (.slice mq nq cq)) = ws1 at *
        refine Calm.one (i := 13) (l' := #[true, true, true, true, true, true, true, true, true, true, true, true, true, true, false]) (by kernel_rfl) rfl rfl rfl fun K hK => ?_
        have hc0 := BXr.out.cell0
        have hc1 := BXr.out.cell1
        have hf0 := BXr.out.free 0
        have hf1 := BXr.out.free 1
        go_simp
        have HF' := hide (And.intro (below_put HF.out.1 (show w.heap.size ≤ gr by have hx := LTS.out; omega) (.bool sr) (.slice mr nr cr)) (And.intro (HF.out.2.1.other (C := gr) (by have hx := LTS.out; omega) (.bool sr) (.slice mr nr cr)) (And.intro (HF.out.2.2.1.put (B := gr) (show ga ≠ gr by have hx := LTS.out; omega) (.bool sr) (.slice mr nr cr)) (And.intro (HF.out.2.2.2.1.other (C := gr) (by have hx := LTS.out; omega) (.bool sr) (.slice mr nr cr)) (And.intro (HF.out.2.2.2.2.1.other (C := gr) (by have hx := LTS.out; omega) (.bool sr) (.slice mr nr cr)) (And.intro (HF.out.2.2.2.2.2.1.put (B := gr) (show b1 ≠ gr by have hx := LTS.out; omega) (.bool sr) (.slice mr nr cr)) (And.intro (HF.out.2.2.2.2.2.2.1.put (B := gr) (show b1 ≠ gr by have hx := LTS.out; omega) (.bool sr) (.slice mr nr cr)) (And.intro (HF.out.2.2.2.2.2.2.2.1.keep (BXr.out.keeps (by simp) (by simp) (.bool sr) (.slice mr nr cr))) (HF.out.2.2.2.2.2.2.2.2.keep (BXr.out.keeps (by simp) (by simp) (.bool sr) (.slice mr nr cr)))))))))))
        replace TQ := hide (TQ.out.keep (BXr.out.keeps (by simp) (by simp) (.bool sr) (.slice mr nr cr)))
        replace TR := hide (TR.out.keep (BXr.out.keeps (by simp) (by simp) (.bool sr) (.slice mr nr cr)))
        replace BXq := hide (BXq.out.other (C := gr) (by have hx := LTS.out; omega) (.bool sr) (.slice mr nr cr))
        replace BXr := hide (BXr.out.put (.bool sr) (.slice mr nr cr))
        refine hK _ _ (fun _ => HF'.out) ?_
        clear hK K HF hc0 hf0 hc1 hf1
        have HF := hide HF'.out
        clear HF'
        generalize ((ws1.setCell ⟨gr, 0, none⟩ (.bool sr)).setCell ⟨gr, 1, none⟩ (.slice mr nr cr)) = ws2 at *
        refine Calm.take (i := 14) (v := ?_) (a' := ?_) (l' := #[true, true, true, true, true, true, true, true, true, true, true, true, true, true, true]) (d := some 8) rfl (by kernel_rfl) (by kernel_rfl) (by kernel_rfl) (by kernel_rfl) (fun _ _ _ h => h) HF.out rfl ?_ rfl rfl ?_ ?_
        rotate_left
        · intro w' hF; clear hF; go_simp; try rfl
        rotate_left
        · simp only [Act.put]; exact rfl
        refine Calm.done (by kernel_rfl) ?_
        go_wp2
        go_meet
        case rel => exact ⟨gq, gr, sq, mq, nq, cq, sr, mr, nr, cr, rfl, rfl, (by have hx := LTS.out; omega), HF.out.1, HF.out.2.1, HF.out.2.2.2.2.1, BXq.out, BXr.out, TQ.out, TR.out⟩
      · go_simp
        have al := below_alloc wzr (.cells #[.bool false, .slice none 0 0] 36)
        have HF' := hide (And.intro (HF.out.1.trans ((al).mono HF.out.1.size)) (And.intro (HF.out.2.1.step (al)) (And.intro (HF.out.2.2.1.step (al)) (And.intro (HF.out.2.2.2.1.step (al)) (And.intro (HF.out.2.2.2.2.1.step (al)) (And.intro (HF.out.2.2.2.2.2.1.step (al)) (And.intro (HF.out.2.2.2.2.2.2.1.step (al)) (And.intro (HF.out.2.2.2.2.2.2.2.1.below (al)) (HF.out.2.2.2.2.2.2.2.2.below (al))))))))))
        have BXq := hide (Box.new wzr (.bool false) (.slice none 0 0))
        have LTrq := hide (BXr.out.lt)
        replace BXr := hide (BXr.out.step al)
        have LT1q := hide (HF.out.2.1.lt)
        have LT2q := hide (HF.out.2.2.1.blt)
        have LT3q := hide (HF.out.2.2.2.1.lt)
        have LT4q := hide (HF.out.2.2.2.2.1.lt)
        have LT5q := hide (HF.out.2.2.2.2.2.1.blt)
        have LT6q := hide (HF.out.2.2.2.2.2.2.1.blt)
        have GEq := hide (HF.out.1.size)
        refine hK _ _ (fun _ => HF'.out) ?_
        clear hK K HF al
        have HF := hide HF'.out
        clear HF'
        generalize wzr.alloc (.cells #[.bool false, .slice none 0 0] 36) = wzq at *
        generalize wzr.heap.size = gq at *
        refine Calm.one (i := 5) (l' := #[true, true, true, true, true, true, false, false, false, false, true, true, false, false, false]) (by kernel_rfl) rfl rfl rfl fun K hK => ?_
        go_simp
        refine (idivmod_any _ _ x z _ HF.out.2.2.2.2.2.2.2.1 HF.out.2.2.2.2.2.2.2.2 L1.out L2.out HZ.out).mono ?_
        rintro e u1 ⟨a, b, rfl, na, nb, hb⟩
        obtain ⟨sq, mq, nq, cq, rfl, na⟩ := na.cells
        obtain ⟨sr, mr, nr, cr, rfl, nb⟩ := nb.cells
        replace BXr := hide (BXr.out.step hb)
        replace BXq := hide (BXq.out.step hb)
        have HF' := hide (And.intro (HF.out.1.trans ((hb).mono HF.out.1.size)) (And.intro (HF.out.2.1.step (hb)) (And.intro (HF.out.2.2.1.step (hb)) (And.intro (HF.out.2.2.2.1.step (hb)) (And.intro (HF.out.2.2.2.2.1.step (hb)) (And.intro (HF.out.2.2.2.2.2.1.step (hb)) (And.intro (HF.out.2.2.2.2.2.2.1.step (hb)) (And.intro (HF.out.2.2.2.2.2.2.2.1.below (hb)) (HF.out.2.2.2.2.2.2.2.2.below (hb))))))))))
        have TQ := hide (na)
        have TR := hide (nb)
        refine hK _ _ (fun _ => HF'.out) ?_
        clear hK K HF hb na nb
        have HF := hide HF'.out
        clear HF'
        refine Calm.take (i := 6) (v := ?_) (a' := ?_) (l' := #[true, true, true, true, true, true, true, false, false, false, true, true, false, false, false]) (d := some 9) rfl (by kernel_rfl) (by kernel_rfl) (by kernel_rfl) (by kernel_rfl) (fun _ _ _ h => h) HF.out rfl ?_ rfl rfl ?_ ?_
        rotate_left
        · intro w' hF; clear hF; go_simp; try rfl
        rotate_left
        · simp only [Act.put]; exact rfl
        refine Calm.take (i := 7) (v := ?_) (a' := ?_) (l' := #[true, true, true, true, true, true, true, true, false, false, true, true, false, false, false]) (d := some 16) rfl (by kernel_rfl) (by kernel_rfl) (by kernel_rfl) (by kernel_rfl) (fun _ _ _ h => h) HF.out rfl ?_ rfl rfl ?_ ?_
        rotate_left
        · intro w' hF; clear hF; go_simp; try rfl
        rotate_left
        · simp only [Act.put]; exact rfl
        refine Calm.take (i := 8) (v := ?_) (a' := ?_) (l' := #[true, true, true, true, true, true, true, true, true, false, true, true, false, false, false]) (d := some 17) rfl (by kernel_rfl) (by kernel_rfl) (by kernel_rfl) (by kernel_rfl) (fun _ _ _ h => h) HF.out rfl ?_ rfl rfl ?_ ?_
        rotate_left
        · intro w' hF; clear hF; go_simp; try rfl
        rotate_left
        · simp only [Act.put]; exact rfl
        refine Calm.take (i := 9) (v := ?_) (a' := ?_) (l' := #[true, true, true, true, true, true, true, true, true, true, true, true, false, false, false]) (d := some 18) rfl (by kernel_rfl) (by kernel_rfl) (by kernel_rfl) (by kernel_rfl) (fun _ _ _ h => h) HF.out rfl ?_ rfl rfl ?_ ?_
        rotate_left
        · intro w' hF; clear hF; go_simp; try rfl
        rotate_left
        · simp only [Act.put]; exact rfl
        refine Calm.one (i := 12) (l' := #[true, true, true, true, true, true, true, true, true, true, true, true, true, false, false]) (by kernel_rfl) rfl rfl rfl fun K hK => ?_
        have LTS := hide (And.intro (LT1q.out) (And.intro (LT2q.out) (And.intro (LT3q.out) (And.intro (LT4q.out) (And.intro (LT5q.out) (And.intro (LT6q.out) (And.intro (LT1r.out) (And.intro (LT2r.out) (And.intro (LT3r.out) (And.intro (LT4r.out) (And.intro (LT5r.out) (And.intro (LT6r.out) (And.intro (GEq.out) (And.intro (GEr.out) ((show gq ≠ gr by first | exact Nat.ne_of_lt LTqr.out | exact Nat.ne_of_gt LTrq.out))))))))))))))))
        have hc0 := BXq.out.cell0
        have hc1 := BXq.out.cell1
        have hf0 := BXq.out.free 0
        have hf1 := BXq.out.free 1
        go_simp
        have HF' := hide (And.intro (below_put HF.out.1 (show w.heap.size ≤ gq by have hx := LTS.out; omega) (.bool sq) (.slice mq nq cq)) (And.intro (HF.out.2.1.other (C := gq) (by have hx := LTS.out; omega) (.bool sq) (.slice mq nq cq)) (And.intro (HF.out.2.2.1.put (B := gq) (show ga ≠ gq by have hx := LTS.out; omega) (.bool sq) (.slice mq nq cq)) (And.intro (HF.out.2.2.2.1.other (C := gq) (by have hx := LTS.out; omega) (.bool sq) (.slice mq nq cq)) (And.intro (HF.out.2.2.2.2.1.other (C := gq) (by have hx := LTS.out; omega) (.bool sq) (.slice mq nq cq)) (And.intro (HF.out.2.2.2.2.2.1.put (B := gq) (show b1 ≠ gq by have hx := LTS.out; omega) (.bool sq) (.slice mq nq cq)) (And.intro (HF.out.2.2.2.2.2.2.1.put (B := gq) (show b1 ≠ gq by have hx := LTS.out; omega) (.bool sq) (.slice mq nq cq)) (And.intro (HF.out.2.2.2.2.2.2.2.1.keep (BXq.out.keeps (by simp) (by simp) (.bool sq) (.slice mq nq cq))) (HF.out.2.2.2.2.2.2.2.2.keep (BXq.out.keeps (by simp) (by simp) (.bool sq) (.slice mq nq cq)))))))))))
        replace TQ := hide (TQ.out.keep (BXq.out.keeps (by simp) (by simp) (.bool sq) (.slice mq nq cq)))
        replace TR := hide (TR.out.keep (BXq.out.keeps (by simp) (by simp) (.bool sq) (.slice mq nq cq)))
        replace BXr := hide (BXr.out.other (C := gq) (by have hx := LTS.out; omega) (.bool sq) (.slice mq nq cq))
        replace BXq := hide (BXq.out.put (.bool sq) (.slice mq nq cq))
        refine hK _ _ (fun _ => HF'.out) ?_
        clear hK K HF hc0 hf0 hc1 hf1
        have HF := hide HF'.out
        clear HF'
        generalize ((u1.setCell ⟨gq, 0, none⟩ (.bool sq)).setCell ⟨gq, 1, none⟩ (.slice mq nq cq)) = ws1 at *
        refine Calm.one (i := 13) (l' := #[true, true, true, true, true, true, true, true, true, true, true, true, true, true, false]) (by kernel_rfl) rfl rfl rfl fun K hK => ?_
        have hc0 := BXr.out.cell0
        have hc1 := BXr.out.cell1
        have hf0 := BXr.out.free 0
        have hf1 := BXr.out.free 1
        go_simp
        have HF' := hide (And.intro (below_put HF.out.1 (show w.heap.size ≤ gr by have hx := LTS.out; omega) (.bool sr) (.slice mr nr cr)) (And.intro (HF.out.2.1.other (C := gr) (by have hx := LTS.out; omega) (.bool sr) (.slice mr nr cr)) (And.intro (HF.out.2.2.1.put (B := gr) (show ga ≠ gr by have hx := LTS.out; omega) (.bool sr) (.slice mr nr cr)) (And.intro (HF.out.2.2.2.1.other (C := gr) (by have hx := LTS.out; omega) (.bool sr) (.slice mr nr cr)) (And.intro (HF.out.2.2.2.2.1.other (C := gr) (by have hx := LTS.out; omega) (.bool sr) (.slice mr nr cr)) (And.intro (HF.out.2.2.2.2.2.1.put (B := gr) (show b1 ≠ gr by have hx := LTS.out; omega) (.bool sr) (.slice mr nr cr)) (And.intro (HF.out.2.2.2.2.2.2.1.put (B := gr) (show b1 ≠ gr by have hx := LTS.out; omega) (.bool sr) (.slice mr nr cr)) (And.intro (HF.out.2.2.2.2.2.2.2.1.keep (BXr.out.keeps (by simp) (by simp) (.bool sr) (.slice mr nr cr))) (HF.out.2.2.2.2.2.2.2.2.keep (BXr.out.keeps (by simp) (by simp) (.bool sr) (.slice mr nr cr)))))))))))
        replace TQ := hide (TQ.out.keep (BXr.out.keeps (by simp) (by simp) (.bool sr) (.slice mr nr cr)))
        replace TR := hide (TR.out.keep (BXr.out.keeps (by simp) (by simp) (.bool sr) (.slice mr nr cr)))
        replace BXq := hide (BXq.out.other (C := gr) (by have hx := LTS.out; omega) (.bool sr) (.slice mr nr cr))
        replace BXr := hide (BXr.out.put (.bool sr) (.slice mr nr cr))
        refine hK _ _ (fun _ => HF'.out) ?_
        clear hK K HF hc0 hf0 hc1 hf1
        have HF := hide HF'.out
        clear HF'
        generalize ((ws1.setCell ⟨gr, 0, none⟩ (.bool sr)).setCell ⟨gr, 1, none⟩ (.slice mr nr cr)) = ws2 at *
        refine Calm.take (i := 14) (v := ?_) (a' := ?_) (l' := #[true, true, true, true, true, true, true, true, true, true, true, true, true, true, true]) (d := some 8) rfl (by kernel_rfl) (by kernel_rfl) (by kernel_rfl) (by kernel_rfl) (fun _ _ _ h => h) HF.out rfl ?_ rfl rfl ?_ ?_
        rotate_left
        · intro w' hF; clear hF; go_simp; try rfl
        rotate_left
        · simp only [Act.put]; exact rfl
        refine Calm.done (by kernel_rfl) ?_
        go_wp2
        go_meet
        case rel => exact ⟨gq, gr, sq, mq, nq, cq, sr, mr, nr, cr, rfl, rfl, (by have hx := LTS.out; omega), HF.out.1, HF.out.2.1, HF.out.2.2.2.2.1, BXq.out, BXr.out, TQ.out, TR.out⟩
  case rest =>
    obtain ⟨gq, gr, sq, mq, nq, cq, sr, mr, nr, cr, rfl, rfl, hlt, h0, h1, h2, h3, h4, h5, h6⟩ := hcut
    clear HB HP KA PC PE K1 K2 I1 I2
    have HLT := hide hlt
    have HB := hide h0
    have HP := hide h1
    have PE := hide h2
    have PQ := hide h3
    have PR := hide h4
    have IQ := hide h5
    have IR := hide h6
    clear hlt h0 h1 h2 h3 h4 h5 h6
    generalize hwc : wc = w1 at *
    clear hwc
    have r0 := PR.out.cell0
    have r1 := PR.out.cell1
    go_wp2_with fail
    refine (isign_any _ (x % z) _ IR.out).mono ?_
    rintro e w2 ⟨rfl, hb⟩
    replace HB := hide (HB.out.trans (hb.mono HB.out.size))
    replace HP := hide (HP.out.step hb)
    replace PE := hide (PE.out.step hb)
    replace PQ := hide (PQ.out.step hb)
    replace IQ := hide (IQ.out.below hb)
    clear hb r0 r1 IR PR
    by_cases hx : x % z = 0
    · have SG : sgnI (x % z) = 0 := by rw [hx]; rfl
      have HX := hide hx
      rw [SG]
      clear SG hx
      have q0 := PQ.out.cell0
      have q1 := PQ.out.cell1
      have p0 := HP.out.cell0
      have p1 := HP.out.cell1
      have f0 := HP.out.free 0
      have f1 := HP.out.free 1
      go_wp2
      refine ret_int rfl w.heap.size _ _ _ _ rfl (HP.out.put _ _) rfl ?_
      refine ⟨_, rfl, IQ.out.keep (HP.out.keeps (by simp) (by simp) _ _), ?_, ?_⟩
      · exact PE.out.other (by have := GE0.out; omega) _ _
      · have hbel := below_put HB.out (Nat.le_refl _) (.bool sq) (.slice mq nq cq)
        exact ⟨hbel.size, fun g hg _ => hbel.block g hg, Spares.of hbel, hbel.os, hbel.tape, hbel.output⟩
    · have SG := sgnI_ne0 hx
      have HX := hide hx
      clear hx
      generalize sgnI (x % z) = sz at *
      have e0' := PE.out.cell
      have e1' := PE.out.free
      go_upto_region 4 with fail
      have HK := PE.out.spares (.int .i64 20)
      replace PQ := hide (PQ.out.set_ne (o := 0) (show ge ≠ gq by have := GE0.out; have := HLT.out; omega) (.int .i64 20))
      replace HP := hide (HP.out.set_ne (o := 0) (show ge ≠ w.heap.size by have := GE0.out; omega) (.int .i64 20))
      replace IQ := hide (IQ.out.keep HK)
      have KB : Hid (KeptBut ge w (w2.setCell ⟨ge, 0, none⟩ (.int .i64 20))) := hide ⟨by simpa using HB.out.size, fun g hg hne => by rw [Below.heap_setCell _ _ _ _ hne]; exact HB.out.block g hg, (Spares.of HB.out).trans HK, rest_put ⟨HB.out.os, HB.out.tape, HB.out.output⟩ _ _⟩
      replace PE := hide (PE.out.put 20)
      clear HK e0' e1' HB SG
      generalize w2.setCell ⟨ge, 0, none⟩ (.int .i64 20) = w3 at *
      have q0 := PQ.out.cell0
      have q1 := PQ.out.cell1
      have p0 := HP.out.cell0
      have p1 := HP.out.cell1
      have f0 := HP.out.free 0
      have f1 := HP.out.free 1
      go_wp2
      refine ret_int rfl w.heap.size _ _ _ _ rfl (HP.out.put _ _) rfl ?_
      refine ⟨_, rfl, IQ.out.keep (HP.out.keeps (by simp) (by simp) _ _), ?_, ?_⟩
      · exact PE.out.other (by have := GE0.out; omega) _ _
      · refine ⟨by simpa using KB.out.size, fun g hg hne => ?_, KB.out.limbs.trans (HP.out.keeps (by simp) (by simp) _ _), rest_put (rest_put KB.out.rest _ _) _ _⟩
        rw [Below.heap_setCell _ _ _ _ (show g ≠ w.heap.size by omega), Below.heap_setCell _ _ _ _ (show g ≠ w.heap.size by omega)]
        exact KB.out.block g hg hne


theorem CellAt.kept {b : Nat} {w w' : World} {a : Addr} {v : Value} (h : CellAt w a v) (hk : KeptBut b w w') (hne : a.block ≠ b) : CellAt w' a v := ⟨(World.cell?_of_block (hk.block a.block (World.block_lt_of_cell? w _ h.out) hne)).trans h.out⟩
theorem Ints.kept {g : Nat} {e : Int} {w w' : World} {v : Value} {zs : List Int} (h : Ints w v zs) (he : BoxE w g e) (hk : KeptBut g w w') : Ints w' v zs := by
  obtain ⟨a, cap, rfl, h1, h2, h3⟩ := h
  refine ⟨a, cap, rfl, h1, h2, fun hx => ?_⟩
  obtain ⟨b, off, rfl, hc⟩ := h3 hx
  refine ⟨b, off, rfl, fun i hi => ?_⟩
  obtain ⟨s, m, c, n, k1, k2, k3⟩ := hc i hi
  have hne : b ≠ g := by
    intro hbg
    subst hbg
    unfold World.cell? at k1
    simp only [show w.heap[b]? = _ from he] at k1
    have : off + i * 2 = 0 ∨ 0 < off + i * 2 := Nat.eq_zero_or_pos _
    rcases this with h0 | h0
    · simp only [h0] at k1; cases k1
    · rw [Array.getElem?_eq_none (by show 1 ≤ off + i * 2; omega)] at k1; cases k1
  exact ⟨s, m, c, n, (World.cell?_of_block (hk.block b (World.block_lt_of_cell? w _ k1) hne)).trans k1, (World.cell?_of_block (hk.block b (World.block_lt_of_cell? w _ k2) hne)).trans k2, k3.keep hk.limbs⟩
theorem below_kept {b B : Nat} {w w' w'' : World} (h : Below B w w') (hk : KeptBut b w' w'') (hb : B ≤ b) (hB : B ≤ w'.heap.size) : Below B w w'' := h.grown ⟨hk.rest.1, hk.rest.2.1, hk.rest.2.2, hk.size, fun k hk' hne => hk.block k hk' (fun e => hne (by rw [e]))⟩ hB (fun g e => by cases e; exact hb)
theorem overE_two (xs : List Int) (c : Int) : ∀ k, overE xs c k = 0 ∨ overE xs c k = 20
  | 0 => .inl rfl
  | k + 1 => by show (if _ then _ else _) = _ ∨ (if _ then _ else _) = _; split; exact overE_two xs c k; exact .inr rfl
/-- what Over answers where it divides by what is not 0 -/
def OverP (xs : List Int) (z : Int) (w : World) (e : Ending) (w' : World) : Prop :=
  (overE xs z xs.length = 0 ∧ ∃ b, e = .returned (.tuple #[.slice (some ⟨b, 0, none⟩) xs.length xs.length, .int .i64 0]) ∧ w.heap.size ≤ b ∧ IRow w' b ((List.range xs.length).map fun i => xs.getD i 0 / z) ∧ Below w.heap.size w w') ∨
  (overE xs z xs.length = 20 ∧ e = .returned (.tuple #[.slice none 0 0, .int .i64 20]) ∧ Below w.heap.size w w')

set_option maxRecDepth 100000 in
set_option maxHeartbeats 4000000 in
theorem roverL_any (va vc : Value) (xs : List Int) (z : Int) (k : Nat) (w : World) (h1 : Ints w va xs) (h2 : IntAt w vc z) (hz : z ≠ 0) (hm : xs.length ≤ 4000000000) (s1 : SzL k xs) (s2 : SzI k z) (hk : k ≤ 1000000000) :
    Calls Try.prog 26 #[va, vc] w fun e w' => OverP xs z w e w' := by
  have H1 := hide h1
  have S1 := hide s1
  have S2 := hide s2
  have HZ := hide hz
  have SG := sgnI_ne0 hz
  obtain ⟨aa, ca, rfl, _, hma, _⟩ := h1
  obtain ⟨sc, mc, lc, cc, rfl, h2⟩ := h2.cells
  have WA := hide ((one_new w (.slice aa xs.length ca) 30).step (below_alloc _ (.cells #[.bool sc, .slice mc lc cc] 36)))
  have PC := hide (Box.new (w.alloc (.cells #[.slice aa xs.length ca] 30)) (.bool sc) (.slice mc lc cc))
  simp only [World.size_alloc] at PC
  have HB := hide ((below_alloc w (.cells #[.slice aa xs.length ca] 30)).trans ((below_alloc (w.alloc (.cells #[.slice aa xs.length ca] 30)) (.cells #[.bool sc, .slice mc lc cc] 36)).mono (by simp only [World.size_alloc]; omega)))
  have IC := hide (h2.below HB.out)
  have hmk := mkf
  unfold maxLen at hma
  clear s1 s2 h2 hz
  go_enter Try.func26, Try.ntmps26
  go_wp2_with fail
  generalize (w.alloc (.cells #[.slice aa xs.length ca] 30)).alloc (.cells #[.bool sc, .slice mc lc cc] 36) = w0 at *
  refine (isign_any _ z _ IC.out).mono ?_
  rintro e w1 ⟨rfl, hb⟩
  replace HB := hide (HB.out.trans (hb.mono HB.out.size))
  replace WA := hide (WA.out.step hb)
  replace PC := hide (PC.out.step hb)
  replace IC := hide (IC.out.below hb)
  clear hb
  generalize sgnI z = sz at *
  go_upto_region 4 with fail
  have HA := hide (below_alloc w1 (.cells #[.int .i64 0] 41))
  have PE := hide (BoxE.new w1 0)
  have GB := hide (And.intro HB.out.size (And.intro WA.out.blt PC.out.lt))
  replace HB := hide (HB.out.trans (HA.out.mono HB.out.size))
  replace WA := hide (WA.out.step HA.out)
  replace PC := hide (PC.out.step HA.out)
  replace IC := hide (IC.out.below HA.out)
  have HX := hide (H1.out.below HB.out)
  clear HA SG
  generalize w1.alloc (.cells #[.int .i64 0] 41) = w2 at *
  generalize w1.heap.size = ge at *
  have a0 := WA.out.out
  go_wp2_with fail
  refine (each_gen xs.length 53 #[.pointer (some ⟨w.heap.size, 0, none⟩), .pointer (some ⟨w.heap.size + 1, 0, none⟩), .pointer (some ⟨ge, 0, none⟩)] (fun i => xs.getD i 0 / z) _ hm (enters_of Try.func53 (by kernel_rfl) rfl) (fun i w' => KeptBut ge w2 w' ∧ BoxE w' ge (overE xs z i))
    (fun w' hb _ => ⟨⟨hb.size, fun g hg _ => hb.block g hg, Spares.of hb, hb.os, hb.tape, hb.output⟩, PE.out.step hb⟩)
    (fun i w' zs j x y hr hj hi => ⟨⟨by simpa using hi.1.size, fun g hg hne => by rw [Below.heap_setCell _ _ _ _ (show g ≠ w2.heap.size by omega), Below.heap_setCell _ _ _ _ (show g ≠ w2.heap.size by omega)]; exact hi.1.block g hg hne, hi.1.limbs.trans (hr.spares hj x y), rest_put (rest_put hi.1.rest _ _) _ _⟩, by
      have := PE.out.lt
      unfold BoxE
      rw [Below.heap_setCell _ _ _ _ (show ge ≠ w2.heap.size by omega), Below.heap_setCell _ _ _ _ (show ge ≠ w2.heap.size by omega)]
      exact hi.2⟩)
    (fun i w' hi _ hv => by
      refine (over1_any i w.heap.size (w.heap.size + 1) ge _ xs z (overE xs z i) sc mc lc cc k w' hi (WA.out.kept hv.1 (by have := GB.out; show w.heap.size ≠ ge; omega)) (HX.out.kept PE.out hv.1) ((hv.1.block _ (by have := PC.out.lt; exact this) (by have := GB.out; omega)).trans PC.out) (IC.out.keep hv.1.limbs) HZ.out hv.2 S1.out S2.out hk).mono ?_
      rintro e w'' ⟨v, rfl, h3, h4, h5⟩
      refine ⟨v, rfl, h3, ⟨⟨Nat.le_trans hv.1.size h5.size, fun g hg hne => (h5.block g (Nat.lt_of_lt_of_le hg hv.1.size) hne).trans (hv.1.block g hg hne), hv.1.limbs.trans h5.limbs, h5.rest.1.trans hv.1.rest.1, h5.rest.2.1.trans hv.1.rest.2.1, h5.rest.2.2.trans hv.1.rest.2.2⟩, h4⟩, fun zs hz => hz.kept h5 (by have := PE.out.lt; omega)⟩)).mono ?_
  rintro e w3 ⟨rfl, hr, hk3, he3⟩
  have HR := hide hr
  have PE3 := hide he3
  have HB3 : Hid (Below w.heap.size w w3) := hide (below_kept HB.out hk3 (by have := GB.out; omega) HB.out.size)
  have HS : Hid (w.heap.size ≤ w2.heap.size) := hide HB.out.size
  have e0 := PE3.out.cell
  clear hr hk3 he3 a0
  rcases overE_two xs z xs.length with h20 | h20
  · rw [h20] at e0
    have H20 := hide h20
    clear h20
    go_wp2
    go_ret2
    exact .inl ⟨H20.out, _, rfl, HS.out, HR.out, HB3.out⟩
  · rw [h20] at e0
    have H20 := hide h20
    clear h20
    go_wp2_with fail
    go_region
    all_goals
      go_wp2
      go_ret2
      exact .inr ⟨H20.out, rfl, HB3.out.drew⟩


set_option maxRecDepth 100000 in
set_option maxHeartbeats 2000000 in
theorem roverL_zero (va vc : Value) (xs : List Int) (w : World) (h1 : Ints w va xs) (h2 : IntAt w vc 0) :
    Calls Try.prog 26 #[va, vc] w fun e w' => e = .returned (.tuple #[.slice none 0 0, .int .i64 2]) ∧ Below w.heap.size w w' := by
  obtain ⟨aa, ca, rfl, _, hma, _⟩ := h1
  obtain ⟨sc, mc, lc, cc, rfl, h2⟩ := h2.cells
  have HB := hide ((below_alloc w (.cells #[.slice aa xs.length ca] 30)).trans ((below_alloc (w.alloc (.cells #[.slice aa xs.length ca] 30)) (.cells #[.bool sc, .slice mc lc cc] 36)).mono (by simp only [World.size_alloc]; omega)))
  have IC := hide (h2.below HB.out)
  clear h2
  go_enter Try.func26, Try.ntmps26
  go_wp2_with fail
  generalize (w.alloc (.cells #[.slice aa xs.length ca] 30)).alloc (.cells #[.bool sc, .slice mc lc cc] 36) = w0 at *
  refine (isign_any _ 0 _ IC.out).mono ?_
  rintro e w1 ⟨rfl, hb⟩
  rw [show sgnI 0 = 0 from rfl]
  replace HB := hide (HB.out.trans (hb.mono HB.out.size))
  clear hb
  go_wp2
  go_ret2
  exact ⟨rfl, HB.out⟩
end Go.Proofs.Ytejkjdjobeabfaa
