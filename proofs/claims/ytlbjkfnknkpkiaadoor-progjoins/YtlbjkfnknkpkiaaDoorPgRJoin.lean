/- The document's Join. -/
import Derived.Test.YtlbjkfnknkpkiaaDoorPgJoin
namespace Go.Proofs.YtlbjkfnknkpkiaaDoor
open Go.RowKit

def CellI (w : World) (b o : Nat) (x : Int) : Prop := w.cell? ⟨b, o, none⟩ = some (.int .i64 x)
theorem CellI.out {w : World} {b o : Nat} {x : Int} (h : CellI w b o x) : w.cell? ⟨b, o, none⟩ = some (.int .i64 x) := h
theorem CellI.drew {w : World} {b o : Nat} {x : Int} (h : w.cell? ⟨b, o, none⟩ = some (.int .i64 x)) : CellI w.drew b o x := h
theorem CellI.step {w w' : World} {b o : Nat} {x : Int} (h : CellI w b o x) (hb : Below w.heap.size w w') : CellI w' b o x := (hb.cell (World.block_lt_of_cell? w _ h)).trans h
def ToAny (w : World) (gi : Nat) (x : Ins) : Prop := ∃ t, Box5 w gi 36 ⟨x.op, t, x.a, x.b, x.c⟩
theorem ToAny.step {w w' : World} {gi : Nat} {x : Ins} (h : ToAny w gi x) (hb : Below w.heap.size w w') : ToAny w' gi x := by obtain ⟨t, h⟩ := h; exact ⟨t, h.step hb⟩
theorem JS.set {w0 w : World} {B C R K gi o : Nat} {c : Value} {p q : Pg} {pc po qc qo vc : Value} {x : List Ins} {y : List Int} (h : JS w0 B C R K p q pc po qc qo vc (.slice none 0 0) x y w) (ne : K ≠ gi ∧ B ≠ gi ∧ C ≠ gi ∧ R ≠ gi ∧ w0.heap.size ≤ gi) (hr : vc.ownBlock ≠ some gi) : JS w0 B C R K p q pc po qc qo vc (.slice none 0 0) x y (w.setCell ⟨gi, o, none⟩ c) :=
  ⟨h.bel.setCell (p := ⟨gi, o, none⟩) ne.2.2.2.2 _, h.px.set_ne (fun e => ne.2.1 e.symm) _, h.qx.set_ne (fun e => ne.2.2.1 e.symm) _, h.rx.set_ne (fun e => ne.2.2.2.1 e.symm) _, h.kx.set_ne (fun e => ne.1 e.symm) _, own_set_ne h.oc hr _, own_set_ne h.oo (by simp [Value.ownBlock]) _, h.ne⟩
theorem JS.new {w0 w : World} {B C R : Nat} {p q : Pg} {pc po qc qo : Value} (h1 : Below w0.heap.size w0 w) (h2 : Box4 w B 25 (.int .i64 p.ins) (.int .i64 p.regs) pc po) (h3 : Box4 w C 25 (.int .i64 q.ins) (.int .i64 q.regs) qc qo)
    (h4 : Box4 w R 25 (.int .i64 0) (.int .i64 0) (.slice none 0 0) (.slice none 0 0)) (hR : w0.heap.size ≤ R) :
    JS w0 B C R w.heap.size p q pc po qc qo (.slice none 0 0) (.slice none 0 0) [] [] (w.alloc (.cells #[.int .i64 p.ins, .int .i64 (p.regs + q.regs), .slice none 0 0, .slice none 0 0] 25)) := by
  have hb := below_alloc w (.cells #[.int .i64 p.ins, .int .i64 (p.regs + q.regs), .slice none 0 0, .slice none 0 0] 25)
  exact ⟨h1.trans (hb.mono h1.size), h2.step hb, h3.step hb, h4.step hb, Box4.new _ _ _ _ _ _, World.ownsRow_nil _ _ _ _, World.ownsRow_nil _ _ _ _, ⟨by have := h2.lt; omega, by have := h3.lt; omega, by have := h4.lt; omega, h1.size, hR⟩⟩

set_option maxRecDepth 100000 in
set_option maxHeartbeats 16000000 in
theorem rjoin_any (u v : Value) (p q : Pg) (w : World) (hu : PgAt w u p) (hv : PgAt w v q) (hp : rightB p = true) (hq : rightB q = true) :
    Calls Tryd.prog 27 #[u, v] w fun e w' => JoinR w' e (joinE p q) (joinP p q) ∧ Below w.heap.size w w' := by
  have HP := hide hu
  have HQ := hide hv
  obtain ⟨ca, cc, oa, oc, rfl, hc, ho⟩ := hu
  obtain ⟨ca2, cc2, oa2, oc2, rfl, hc2, ho2⟩ := hv
  have KC := hide hc
  have KO := hide ho
  have LC := hide hc2
  have LO := hide ho2
  clear hc ho hc2 ho2
  go_enter Tryd.func27, Tryd.ntmps27
  go_upto_region 1 with fail
  have b1 := below_alloc w (.cells #[.int .i64 p.ins, .int .i64 p.regs, .slice ca p.code.length cc, .slice oa p.outs.length oc] 25)
  have b2 := below_alloc (w.alloc (.cells #[.int .i64 p.ins, .int .i64 p.regs, .slice ca p.code.length cc, .slice oa p.outs.length oc] 25)) (.cells #[.int .i64 q.ins, .int .i64 q.regs, .slice ca2 q.code.length cc2, .slice oa2 q.outs.length oc2] 25)
  have b3 := below_alloc ((w.alloc (.cells #[.int .i64 p.ins, .int .i64 p.regs, .slice ca p.code.length cc, .slice oa p.outs.length oc] 25)).alloc (.cells #[.int .i64 q.ins, .int .i64 q.regs, .slice ca2 q.code.length cc2, .slice oa2 q.outs.length oc2] 25)) (.cells #[.int .i64 0, .int .i64 0, .slice none 0 0, .slice none 0 0] 25)
  have PX := hide (((Box4.new w 25 (.int .i64 p.ins) (.int .i64 p.regs) (.slice ca p.code.length cc) (.slice oa p.outs.length oc)).step b2).step b3)
  have PY := hide ((Box4.new (w.alloc (.cells #[.int .i64 p.ins, .int .i64 p.regs, .slice ca p.code.length cc, .slice oa p.outs.length oc] 25)) 25 (.int .i64 q.ins) (.int .i64 q.regs) (.slice ca2 q.code.length cc2) (.slice oa2 q.outs.length oc2)).step b3)
  have RX := hide (Box4.new ((w.alloc (.cells #[.int .i64 p.ins, .int .i64 p.regs, .slice ca p.code.length cc, .slice oa p.outs.length oc] 25)).alloc (.cells #[.int .i64 q.ins, .int .i64 q.regs, .slice ca2 q.code.length cc2, .slice oa2 q.outs.length oc2] 25)) 25 (.int .i64 0) (.int .i64 0) (.slice none 0 0) (.slice none 0 0))
  simp only [World.size_alloc] at PY RX
  have HB := hide (b1.trans ((b2.trans (b3.mono b2.size)).mono b1.size))
  clear b1 b2 b3
  generalize ((w.alloc (.cells #[.int .i64 p.ins, .int .i64 p.regs, .slice ca p.code.length cc, .slice oa p.outs.length oc] 25)).alloc (.cells #[.int .i64 q.ins, .int .i64 q.regs, .slice ca2 q.code.length cc2, .slice oa2 q.outs.length oc2] 25)).alloc (.cells #[.int .i64 0, .int .i64 0, .slice none 0 0, .slice none 0 0] 25) = w1 at *
  obtain ⟨B, hB⟩ : ∃ B, B = w.heap.size := ⟨_, rfl⟩
  have HZ := hide hB
  rw [← hB] at PX PY RX ⊢
  clear hB
  try simp only [Nat.add_assoc, Nat.reduceAdd] at PY RX ⊢
  obtain ⟨C, hC⟩ : ∃ C, C = B + 1 := ⟨_, rfl⟩
  obtain ⟨R, hR⟩ : ∃ R, R = B + 2 := ⟨_, rfl⟩
  have HC := hide hC
  have HR := hide hR
  rw [← hC] at PY ⊢
  rw [← hR] at RX ⊢
  clear hC hR
  obtain ⟨p1, p2, p3, p4, p5, p6, p7, p8⟩ := right_parts hp
  obtain ⟨q1, q2, q3, q4, q5, q6, q7, q8⟩ := right_parts hq
  have P7 := hide p7
  have Q7 := hide q7
  have Q8 := hide q8
  clear p7 p8 q7 q8 hp hq
  have c0 := PX.out.cell0
  have c1 := PX.out.cell1
  have c2 := PX.out.cell2
  have c3 := PX.out.cell3
  have d0 := PY.out.cell0
  have d1 := PY.out.cell1
  have d2 := PY.out.cell2
  have d3 := PY.out.cell3
  by_cases g1 : q.ins = p.outs.length
  case neg =>
    have g2 : (q.ins != (p.outs.length : Int)) = true := by simp [g1]
    have e1 : joinE p q = 5 := if_pos g1
    have e2 : joinP p q = noPg := if_neg (by rw [e1]; decide)
    have E1 := hide e1
    have E2 := hide e2
    clear e1 e2
    have r0 := RX.out.cell0
    have r1 := RX.out.cell1
    have r2 := RX.out.cell2
    have r3 := RX.out.cell3
    have f0 := RX.out.free 0
    have f1 := RX.out.free 1
    have f2 := RX.out.free 2
    have f3 := RX.out.free 3
    go_wp2
    refine ret_pge rfl R _ _ _ _ rfl (RX.out.put _ _ _ _) rfl ?_
    rw [E1.out, E2.out]
    exact ⟨⟨_, rfl, no_at _⟩, below_put4 HB.out (by have := HR.out; have := HZ.out; omega) _ _ _ _⟩
  have g2 : (q.ins != (p.outs.length : Int)) = false := by simp [g1]
  by_cases g3 : 128 < p.regs + q.regs
  case pos =>
    have e1 : joinE p q = 3 := (if_neg (fun h => h g1)).trans (if_pos (.inl g3))
    have e2 : joinP p q = noPg := if_neg (by rw [e1]; decide)
    have E1 := hide e1
    have E2 := hide e2
    clear e1 e2
    have r0 := RX.out.cell0
    have r1 := RX.out.cell1
    have r2 := RX.out.cell2
    have r3 := RX.out.cell3
    have f0 := RX.out.free 0
    have f1 := RX.out.free 1
    have f2 := RX.out.free 2
    have f3 := RX.out.free 3
    go_wp2
    refine ret_pge rfl R _ _ _ _ rfl (RX.out.put _ _ _ _) rfl ?_
    rw [E1.out, E2.out]
    exact ⟨⟨_, rfl, no_at _⟩, below_put4 HB.out (by have := HR.out; have := HZ.out; omega) _ _ _ _⟩
  by_cases g4 : 16384 < (p.code.length : Int) + q.ins + (q.code.length : Int)
  case pos =>
    have e1 : joinE p q = 3 := (if_neg (fun h => h g1)).trans (if_pos (.inr g4))
    have e2 : joinP p q = noPg := if_neg (by rw [e1]; decide)
    have E1 := hide e1
    have E2 := hide e2
    clear e1 e2
    have r0 := RX.out.cell0
    have r1 := RX.out.cell1
    have r2 := RX.out.cell2
    have r3 := RX.out.cell3
    have f0 := RX.out.free 0
    have f1 := RX.out.free 1
    have f2 := RX.out.free 2
    have f3 := RX.out.free 3
    go_wp2
    refine ret_pge rfl R _ _ _ _ rfl (RX.out.put _ _ _ _) rfl ?_
    rw [E1.out, E2.out]
    exact ⟨⟨_, rfl, no_at _⟩, below_put4 HB.out (by have := HR.out; have := HZ.out; omega) _ _ _ _⟩
  have e1 : joinE p q = 0 := (if_neg (fun h => h g1)).trans (if_neg (fun h => h.elim g3 g4))
  have e2 : joinP p q = joined p q := if_pos e1
  have E1 := hide e1
  have E2 := hide e2
  have G1 := hide g1
  clear e1 e2
  go_upto_region 6 with fail
  clear g1 g2 c0 c1 c2 c3 d0 d1 d2 d3
  have JX := hide (JS.new (p := p) (q := q) HB.out PX.out PY.out RX.out (by have := HR.out; have := HZ.out; omega))
  clear HB PX PY RX
  generalize w1.alloc (.cells #[.int .i64 p.ins, .int .i64 (p.regs + q.regs), .slice none 0 0, .slice none 0 0] 25) = w2 at *
  generalize w1.heap.size = gk at *
  have x2 := JX.out.px.cell2
  have y2 := JX.out.kx.cell2
  go_wp2_with (at_builtin; refine app_code rfl _ _ rfl w.heap.size _ [] rfl JX.out.oc _ p.code rfl (KC.out.below JX.out.bel) (by simp only [List.length_nil]; omega) JX.out.bel.size ?_)
  intro v' w3 hown hgrow
  clear x2 y2
  try rw [List.nil_append] at hown
  have kx' := JX.out.kx.grow hgrow (box_row_ne JX.out.kx JX.out.oc (by decide))
  have y2 := kx'.cell2
  have z2 := kx'.free 2
  have JN := hide (JX.out.app hgrow hown)
  obtain ⟨va, vcap, rfl⟩ := own_slice hown
  clear hgrow hown kx' JX
  have JX := hide JN.out
  clear JN
  go_upto_region 8 with fail
  clear y2 z2
  generalize w3.setCell ⟨gk, 2, none⟩ (.slice va p.code.length vcap) = w4 at *
  go_loopw [7] (fun kv wr => ∃ (k : Nat) (vc : Value), k ≤ p.outs.length ∧ kv = .int .i64 k ∧ JS w B C R gk p q (.slice ca p.code.length cc) (.slice oa p.outs.length oc) (.slice ca2 q.code.length cc2) (.slice oa2 q.outs.length oc2) vc (.slice none 0 0) (p.code ++ mvs p k) [] wr) (fun kv _ => p.outs.length - (intOf kv).toNat)
  case atStart => exact ⟨0, _, Nat.zero_le _, rfl, by rw [show mvs p 0 = [] from rfl, List.append_nil]; exact JX.out⟩
  case round =>
    clear JX
    obtain ⟨k, vc, hk, rfl, hJ⟩ := hrel
    obtain ⟨l, hl⟩ : ∃ l, l = p.code ++ mvs p k := ⟨_, rfl⟩
    rw [← hl] at hJ
    have LN : Hid (l.length ≤ 20000) := hide (by rw [hl]; simp only [List.length_append, mvs_length]; omega)
    have HL := hide hl
    clear hl
    obtain ⟨va, vcap, rfl⟩ := own_slice hJ.oc
    have JX := hide hJ
    clear hJ
    have x3 := JX.out.px.cell3
    by_cases hlt : k < p.outs.length
    · have k1 := (KO.out.below JX.out.bel).at hlt
      obtain ⟨b, off, rfl, k1⟩ := k1
      obtain ⟨r, hr⟩ : ∃ r, r = ot p.outs k := ⟨_, rfl⟩
      rw [← hr] at k1
      have HX := hide hr
      have RC := hide k1
      clear hr k1
      go_upto_region 10 with fail
      clear x3
      refine wp_calm (fun w' => Below w.heap.size w w' ∧ JS w B C R gk p q (.slice ca p.code.length cc) (.slice (some ⟨b, off, none⟩) p.outs.length oc) (.slice ca2 q.code.length cc2) (.slice oa2 q.outs.length oc2) (.slice va l.length vcap) (.slice none 0 0) l [] w' ∧ CellI w' b (off + k) r) (fun j => j != 13 && j != 14 && j != 15) 16 #[false, false, false, false, false, false, false, false, false, false, false, false, false, false, false, false] (by kernel_rfl) rfl rfl ?_
      have HF := hide (And.intro JX.out.bel.drew (And.intro JX.out.drew (CellI.drew RC.out)))
      generalize wr.drew = wrd at *
      refine Calm.takeL 16 (i := 0) (v := ?_) (a' := ?_) (l' := #[true, false, false, false, false, false, false, false, false, false, false, false, false, false, false, false]) (d := some 59) (by kernel_rfl) rfl (by kernel_rfl) (by kernel_rfl) (by kernel_rfl) (by kernel_rfl) (fun _ _ _ h => h) HF.out rfl ?_ rfl rfl ?_ ?_
      rotate_left
      · intro w' hF; clear hF; go_simp; try rfl
      rotate_left
      · simp only [Act.put]; exact rfl
      refine Calm.takeL 16 (i := 1) (v := ?_) (a' := ?_) (l' := #[true, true, false, false, false, false, false, false, false, false, false, false, false, false, false, false]) (d := some 60) (by kernel_rfl) rfl (by kernel_rfl) (by kernel_rfl) (by kernel_rfl) (by kernel_rfl) (fun _ _ _ h => h) HF.out rfl ?_ rfl rfl ?_ ?_
      rotate_left
      · intro w' hF; have f0 := hF.2.1.kx.cell2; have f1 := hF.2.1.px.cell1; have f2 := hF.2.1.px.cell3; have f3 := hF.2.2.out; clear hF; go_simp; try rfl
      rotate_left
      · simp only [Act.put]; exact rfl
      refine Calm.takeL 16 (i := 2) (v := ?_) (a' := ?_) (l' := #[true, true, true, false, false, false, false, false, false, false, false, false, false, false, false, false]) (d := some 61) (by kernel_rfl) rfl (by kernel_rfl) (by kernel_rfl) (by kernel_rfl) (by kernel_rfl) (fun _ _ _ h => h) HF.out rfl ?_ rfl rfl ?_ ?_
      rotate_left
      · intro w' hF; clear hF; go_simp; try rfl
      rotate_left
      · simp only [Act.put]; exact rfl
      refine Calm.takeL 16 (i := 3) (v := ?_) (a' := ?_) (l' := #[true, true, true, true, false, false, false, false, false, false, false, false, false, false, false, false]) (d := some 62) (by kernel_rfl) rfl (by kernel_rfl) (by kernel_rfl) (by kernel_rfl) (by kernel_rfl) (fun _ _ _ h => h) HF.out rfl ?_ rfl rfl ?_ ?_
      rotate_left
      · intro w' hF; have f0 := hF.2.1.kx.cell2; have f1 := hF.2.1.px.cell1; have f2 := hF.2.1.px.cell3; have f3 := hF.2.2.out; clear hF; go_simp; try rfl
      rotate_left
      · simp only [Act.put]; exact rfl
      refine Calm.takeL 16 (i := 4) (v := ?_) (a' := ?_) (l' := #[true, true, true, true, true, false, false, false, false, false, false, false, false, false, false, false]) (d := some 63) (by kernel_rfl) rfl (by kernel_rfl) (by kernel_rfl) (by kernel_rfl) (by kernel_rfl) (fun _ _ _ h => h) HF.out rfl ?_ rfl rfl ?_ ?_
      rotate_left
      · intro w' hF; clear hF; go_simp; try rfl
      rotate_left
      · simp only [Act.put]; exact rfl
      refine Calm.takeL 16 (i := 5) (v := ?_) (a' := ?_) (l' := #[true, true, true, true, true, true, false, false, false, false, false, false, false, false, false, false]) (d := some 64) (by kernel_rfl) rfl (by kernel_rfl) (by kernel_rfl) (by kernel_rfl) (by kernel_rfl) (fun _ _ _ h => h) HF.out rfl ?_ rfl rfl ?_ ?_
      rotate_left
      · intro w' hF; clear hF; go_simp; try rfl
      rotate_left
      · simp only [Act.put]; exact rfl
      refine Calm.takeL 16 (i := 6) (v := ?_) (a' := ?_) (l' := #[true, true, true, true, true, true, true, false, false, false, false, false, false, false, false, false]) (d := some 65) (by kernel_rfl) rfl (by kernel_rfl) (by kernel_rfl) (by kernel_rfl) (by kernel_rfl) (fun _ _ _ h => h) HF.out rfl ?_ rfl rfl ?_ ?_
      rotate_left
      · intro w' hF; clear hF; go_simp; try rfl
      rotate_left
      · simp only [Act.put]; exact rfl
      refine Calm.takeL 16 (i := 7) (v := ?_) (a' := ?_) (l' := #[true, true, true, true, true, true, true, true, false, false, false, false, false, false, false, false]) (d := some 66) (by kernel_rfl) rfl (by kernel_rfl) (by kernel_rfl) (by kernel_rfl) (by kernel_rfl) (fun _ _ _ h => h) HF.out rfl ?_ rfl rfl ?_ ?_
      rotate_left
      · intro w' hF; have f0 := hF.2.1.kx.cell2; have f1 := hF.2.1.px.cell1; have f2 := hF.2.1.px.cell3; have f3 := hF.2.2.out; clear hF; go_simp; try rfl
      rotate_left
      · simp only [Act.put]; exact rfl
      refine Calm.takeL 16 (i := 8) (v := ?_) (a' := ?_) (l' := #[true, true, true, true, true, true, true, true, true, false, false, false, false, false, false, false]) (d := some 67) (by kernel_rfl) rfl (by kernel_rfl) (by kernel_rfl) (by kernel_rfl) (by kernel_rfl) (fun _ _ _ h => h) HF.out rfl ?_ rfl rfl ?_ ?_
      rotate_left
      · intro w' hF; clear hF; go_simp; try rfl
      rotate_left
      · simp only [Act.put]; exact rfl
      refine Calm.takeL 16 (i := 9) (v := ?_) (a' := ?_) (l' := #[true, true, true, true, true, true, true, true, true, true, false, false, false, false, false, false]) (d := some 68) (by kernel_rfl) rfl (by kernel_rfl) (by kernel_rfl) (by kernel_rfl) (by kernel_rfl) (fun _ _ _ h => h) HF.out rfl ?_ rfl rfl ?_ ?_
      rotate_left
      · intro w' hF; clear hF; go_simp; try rfl
      rotate_left
      · simp only [Act.put]; exact rfl
      refine Calm.takeL 16 (i := 10) (v := ?_) (a' := ?_) (l' := #[true, true, true, true, true, true, true, true, true, true, true, false, false, false, false, false]) (d := some 69) (by kernel_rfl) rfl (by kernel_rfl) (by kernel_rfl) (by kernel_rfl) (by kernel_rfl) (fun _ _ _ h => h) HF.out rfl ?_ rfl rfl ?_ ?_
      rotate_left
      · intro w' hF; have f0 := hF.2.1.kx.cell2; have f1 := hF.2.1.px.cell1; have f2 := hF.2.1.px.cell3; have f3 := hF.2.2.out; clear hF; go_simp; try rfl
      rotate_left
      · simp only [Act.put]; exact rfl
      refine Calm.takeL 16 (i := 11) (v := ?_) (a' := ?_) (l' := #[true, true, true, true, true, true, true, true, true, true, true, true, false, false, false, false]) (d := some 70) (by kernel_rfl) rfl (by kernel_rfl) (by kernel_rfl) (by kernel_rfl) (by kernel_rfl) (fun _ _ _ h => h) HF.out rfl ?_ rfl rfl ?_ ?_
      rotate_left
      · intro w' hF; clear hF; go_simp; try rfl
      rotate_left
      · simp only [Act.put]; exact rfl
      refine Calm.one (i := 12) (l' := #[true, true, true, true, true, true, true, true, true, true, true, true, true, false, false, false]) (by kernel_rfl) rfl rfl rfl fun K hK => ?_
      go_simp
      have al := below_alloc wrd (.cells #[.int .i64 1, .int .i64 (IntKind.i64.wrap (p.regs + (k : Int))), .int .i64 r, .int .i64 0, .int .i64 0] 36)
      have HF' := hide (And.intro (HF.out.1.trans ((al).mono HF.out.1.size)) (And.intro (HF.out.2.1.step (al)) (HF.out.2.2.step (al))))
      have BXe := hide ((show CodeAt (wrd.alloc (.cells #[.int .i64 1, .int .i64 (IntKind.i64.wrap (p.regs + (k : Int))), .int .i64 r, .int .i64 0, .int .i64 0] 36)) (.slice (some ⟨wrd.heap.size, 0, none⟩) 1 1) [(⟨1, IntKind.i64.wrap (p.regs + (k : Int)), r, 0, 0⟩ : Ins)] from code1 wrd (⟨1, IntKind.i64.wrap (p.regs + (k : Int)), r, 0, 0⟩ : Ins) rfl))
      have GEe := hide (HF.out.1.size)
      refine hK _ _ (fun _ => HF'.out) ?_
      clear hK K HF al
      have HF := hide HF'.out
      clear HF'
      generalize wrd.alloc (.cells #[.int .i64 1, .int .i64 (IntKind.i64.wrap (p.regs + (k : Int))), .int .i64 r, .int .i64 0, .int .i64 0] 36) = wze at *
      generalize wrd.heap.size = ge at *
      refine Calm.one (i := 13) (l' := #[true, true, true, true, true, true, true, true, true, true, true, true, true, true, false, false]) (by kernel_rfl) rfl rfl rfl fun K hK => ?_
      refine app_codeW (.tmp 60) (.tmp 71) rfl w.heap.size _ l rfl HF.out.2.1.oc ge (⟨1, IntKind.i64.wrap (p.regs + (k : Int)), r, 0, 0⟩ : Ins) rfl BXe.out (by have := LN.out; omega) HF.out.1.size ?_
      intro v' w2 hown hgrow
      obtain ⟨l2, hl2⟩ : ∃ l2, l2 = l ++ [(⟨1, IntKind.i64.wrap (p.regs + (k : Int)), r, 0, 0⟩ : Ins)] := ⟨_, rfl⟩
      rw [← hl2] at hown
      have HL2 := hide hl2
      clear hl2
      have kx' := HF.out.2.1.kx.grow hgrow (box_row_ne HF.out.2.1.kx HF.out.2.1.oc (by decide))
      have y2 := kx'.cell2
      have z2 := kx'.free 2
      have JN := hide (HF.out.2.1.app hgrow hown)
      obtain ⟨va', vcap', rfl⟩ := own_slice hown
      clear hgrow hown kx'
      refine hK _ _ (fun h => absurd h (by decide)) ?_
      clear hK K
      refine Calm.one (i := 14) (l' := #[true, true, true, true, true, true, true, true, true, true, true, true, true, true, true, false]) (by kernel_rfl) rfl rfl rfl fun K hK => ?_
      go_simp
      refine hK _ _ (fun h => absurd h (by decide)) ?_
      clear hK K
      refine Calm.one (i := 15) (l' := #[true, true, true, true, true, true, true, true, true, true, true, true, true, true, true, true]) (by kernel_rfl) rfl rfl rfl fun K hK => ?_
      go_simp
      refine hK _ _ (fun h => absurd h (by decide)) ?_
      clear hK K
      refine Calm.done (by kernel_rfl) ?_
      clear HF BXe
      go_wp2
      go_roundw
      case rel => exact ⟨k + 1, _, by omega, by go_num, by rw [mvs_succ, ← List.append_assoc, ← HL.out, show mvI p k = (⟨1, IntKind.i64.wrap (p.regs + (k : Int)), r, 0, 0⟩ : Ins) from by unfold mvI; rw [← HX.out, wr64 (by omega) (by omega)], ← HL2.out]; exact JN.out⟩
      case measure => simp [intOf]; omega
    · have e : k = p.outs.length := by omega
      subst e
      go_upto_region 12 with fail
      clear x3
      rw [HL.out] at JX
      clear HL LN
      generalize wr = w11 at *
      go_loopw [8, 9] (fun kv _ wr => ∃ (k : Nat) (vc : Value), k ≤ q.code.length ∧ kv = .int .i64 k ∧ JS w B C R gk p q (.slice ca p.code.length cc) (.slice oa p.outs.length oc) (.slice ca2 q.code.length cc2) (.slice oa2 q.outs.length oc2) vc (.slice none 0 0) (p.code ++ mvs p p.outs.length ++ rsd p q k) [] wr) (fun kv _ _ => q.code.length - (intOf kv).toNat)
      case atStart => exact ⟨0, _, Nat.zero_le _, rfl, by rw [show rsd p q 0 = [] from rfl, List.append_nil]; exact JX.out⟩
      case round =>
        clear JX
        obtain ⟨k, vc, hk, rfl, hJ⟩ := hrel
        obtain ⟨l, hl⟩ : ∃ l, l = p.code ++ mvs p p.outs.length ++ rsd p q k := ⟨_, rfl⟩
        rw [← hl] at hJ
        have LN : Hid (l.length ≤ 40000) := hide (by rw [hl]; simp only [List.length_append, mvs_length, rsd_length]; omega)
        have HL := hide hl
        clear hl
        obtain ⟨va, vcap, rfl⟩ := own_slice hJ.oc
        have JX := hide hJ
        clear hJ
        have x2 := JX.out.qx.cell2
        by_cases hlt : k < q.code.length
        · have k1 := (LC.out.below JX.out.bel).at hlt
          obtain ⟨b, off, rfl, k1⟩ := k1
          obtain ⟨x, hx⟩ : ∃ x, x = cd q.code k := ⟨_, rfl⟩
          rw [← hx] at k1
          have HX := hide hx
          clear hx
          have MB := hide (may_parts (i := x) (regs := q.regs) (by rw [HX.out]; exact Q8.out k hlt))
          have JNE : Hid (gk ≠ wr.heap.size ∧ B ≠ wr.heap.size ∧ C ≠ wr.heap.size ∧ R ≠ wr.heap.size) := hide ⟨by have := JX.out.kx.lt; omega, by have := JX.out.px.lt; omega, by have := JX.out.qx.lt; omega, by have := JX.out.rx.lt; omega⟩
          have NR : Hid ((Value.slice va l.length vcap).ownBlock ≠ some wr.heap.size) := hide (fun e => by have := (JX.out.oc.lt _ e).2; omega)
          have JBE := hide JX.out.bel.size
          have k10 := k1.cell0
          have k11 := k1.cell1
          have k12 := k1.cell2
          have k13 := k1.cell3
          have k14 := k1.cell4
          clear k1
          go_upto_region 15 with fail
          clear k10 k11 k12 k13 k14 x2
          have hb := below_alloc wr (.cells x.vals 36)
          have IX := hide (Box5.new wr 36 x)
          replace JX := hide (JX.out.step hb)
          have GI : Hid (gk ≠ wr.heap.size ∧ B ≠ wr.heap.size ∧ C ≠ wr.heap.size ∧ R ≠ wr.heap.size ∧ w.heap.size ≤ wr.heap.size) := hide ⟨JNE.out.1, JNE.out.2.1, JNE.out.2.2.1, JNE.out.2.2.2, JBE.out⟩
          clear hb JNE JBE
          unfold Ins.vals at IX JX
          generalize wr.alloc (.cells #[.int .i64 x.op, .int .i64 x.to, .int .i64 x.a, .int .i64 x.b, .int .i64 x.c] 36) = w12 at *
          generalize wr.heap.size = gi at *
          replace IX := hide IX.out.drew
          have t1 := IX.out.cells.cell1
          simp only [Nat.zero_add] at t1
          have f1 := IX.out.free 1
          refine wp_calm (fun w' => Below w.heap.size w w' ∧ JS w B C R gk p q (.slice ca p.code.length cc) (.slice oa p.outs.length oc) (.slice (some ⟨b, off, none⟩) q.code.length cc2) (.slice oa2 q.outs.length oc2) (.slice va l.length vcap) (.slice none 0 0) l [] w' ∧ ToAny w' gi x) (fun j => j != 13) 14 #[false, false, false, false, false, false, false, false, false, false, false, false, false, false] (by kernel_rfl) rfl rfl ?_
          have HF := hide (And.intro JX.out.bel.drew (And.intro JX.out.drew (show ToAny _ gi x from ⟨x.to, IX.out⟩)))
          generalize w12.drew = w12d at *
          refine Calm.takeL 14 (i := 0) (v := ?_) (a' := ?_) (l' := #[true, false, false, false, false, false, false, false, false, false, false, false, false, false]) (d := some 86) (by kernel_rfl) rfl (by kernel_rfl) (by kernel_rfl) (by kernel_rfl) (by kernel_rfl) (fun _ _ _ h => h) HF.out rfl ?_ rfl rfl ?_ ?_
          rotate_left
          · intro w' hF; clear hF; go_simp; try rfl
          rotate_left
          · simp only [Act.put]; exact rfl
          refine Calm.takeL 14 (i := 2) (v := ?_) (a' := ?_) (l' := #[true, false, true, false, false, false, false, false, false, false, false, false, false, false]) (d := some 88) (by kernel_rfl) rfl (by kernel_rfl) (by kernel_rfl) (by kernel_rfl) (by kernel_rfl) (fun _ _ _ h => h) HF.out rfl ?_ rfl rfl ?_ ?_
          rotate_left
          · intro w' hF; clear hF; go_simp; try rfl
          rotate_left
          · simp only [Act.put]; exact rfl
          refine Calm.takeL 14 (i := 3) (v := ?_) (a' := ?_) (l' := #[true, false, true, true, false, false, false, false, false, false, false, false, false, false]) (d := some 89) (by kernel_rfl) rfl (by kernel_rfl) (by kernel_rfl) (by kernel_rfl) (by kernel_rfl) (fun _ _ _ h => h) HF.out rfl ?_ rfl rfl ?_ ?_
          rotate_left
          · intro w' hF; have f1 := hF.2.1.px.cell1; obtain ⟨tt, hTT⟩ := hF.2.2; have f2 := hTT.cells.cell2; simp only [Nat.zero_add] at f2; clear hTT; clear hF; go_simp; try rfl
          rotate_left
          · simp only [Act.put]; exact rfl
          refine Calm.takeL 14 (i := 5) (v := ?_) (a' := ?_) (l' := #[true, false, true, true, false, true, false, false, false, false, false, false, false, false]) (d := some 91) (by kernel_rfl) rfl (by kernel_rfl) (by kernel_rfl) (by kernel_rfl) (by kernel_rfl) (fun _ _ _ h => h) HF.out rfl ?_ rfl rfl ?_ ?_
          rotate_left
          · intro w' hF; clear hF; go_simp; try rfl
          rotate_left
          · simp only [Act.put]; exact rfl
          refine Calm.takeL 14 (i := 6) (v := ?_) (a' := ?_) (l' := #[true, false, true, true, false, true, true, false, false, false, false, false, false, false]) (d := some 92) (by kernel_rfl) rfl (by kernel_rfl) (by kernel_rfl) (by kernel_rfl) (by kernel_rfl) (fun _ _ _ h => h) HF.out rfl ?_ rfl rfl ?_ ?_
          rotate_left
          · intro w' hF; have f1 := hF.2.1.px.cell1; obtain ⟨tt, hTT⟩ := hF.2.2; have f2 := hTT.cells.cell2; simp only [Nat.zero_add] at f2; clear hTT; clear hF; go_simp; try rfl
          rotate_left
          · simp only [Act.put]; exact rfl
          refine Calm.takeL 14 (i := 7) (v := ?_) (a' := ?_) (l' := #[true, false, true, true, false, true, true, true, false, false, false, false, false, false]) (d := some 93) (by kernel_rfl) rfl (by kernel_rfl) (by kernel_rfl) (by kernel_rfl) (by kernel_rfl) (fun _ _ _ h => h) HF.out rfl ?_ rfl rfl ?_ ?_
          rotate_left
          · intro w' hF; clear hF; go_simp; try rfl
          rotate_left
          · simp only [Act.put]; exact rfl
          refine Calm.takeL 14 (i := 8) (v := ?_) (a' := ?_) (l' := #[true, false, true, true, false, true, true, true, true, false, false, false, false, false]) (d := some 94) (by kernel_rfl) rfl (by kernel_rfl) (by kernel_rfl) (by kernel_rfl) (by kernel_rfl) (fun _ _ _ h => h) HF.out rfl ?_ rfl rfl ?_ ?_
          rotate_left
          · intro w' hF; have f1 := hF.2.1.px.cell1; obtain ⟨tt, hTT⟩ := hF.2.2; have f2 := hTT.cells.cell2; simp only [Nat.zero_add] at f2; clear hTT; clear hF; go_simp; try rfl
          rotate_left
          · simp only [Act.put]; exact rfl
          refine Calm.takeL 14 (i := 9) (v := ?_) (a' := ?_) (l' := #[true, false, true, true, false, true, true, true, true, true, false, false, false, false]) (d := some 95) (by kernel_rfl) rfl (by kernel_rfl) (by kernel_rfl) (by kernel_rfl) (by kernel_rfl) (fun _ _ _ h => h) HF.out rfl ?_ rfl rfl ?_ ?_
          rotate_left
          · intro w' hF; clear hF; go_simp; try rfl
          rotate_left
          · simp only [Act.put]; exact rfl
          refine Calm.one (i := 1) (l' := #[true, true, true, true, false, true, true, true, true, true, false, false, false, false]) (by kernel_rfl) rfl rfl rfl fun K hK => ?_
          go_simp
          have hb : True := trivial
          have HF' := hide (HF.out)
          refine hK _ _ (fun _ => HF'.out) ?_
          clear hK K HF hb
          have HF := hide HF'.out
          clear HF'
          refine Calm.takeL 14 (i := 4) (v := ?_) (a' := ?_) (l' := #[true, true, true, true, true, true, true, true, true, true, false, false, false, false]) (d := some 90) (by kernel_rfl) rfl (by kernel_rfl) (by kernel_rfl) (by kernel_rfl) (by kernel_rfl) (fun _ _ _ h => h) HF.out rfl ?_ rfl rfl ?_ ?_
          rotate_left
          · intro w' hF; clear hF; go_simp; try rfl
          rotate_left
          · simp only [Act.put]; exact rfl
          refine Calm.takeL 14 (i := 10) (v := ?_) (a' := ?_) (l' := #[true, true, true, true, true, true, true, true, true, true, true, false, false, false]) (d := some 96) (by kernel_rfl) rfl (by kernel_rfl) (by kernel_rfl) (by kernel_rfl) (by kernel_rfl) (fun _ _ _ h => h) HF.out rfl ?_ rfl rfl ?_ ?_
          rotate_left
          · intro w' hF; clear hF; go_simp; try rfl
          rotate_left
          · simp only [Act.put]; exact rfl
          refine Calm.one (i := 11) (l' := #[true, true, true, true, true, true, true, true, true, true, true, true, false, false]) (by kernel_rfl) rfl rfl rfl fun K hK => ?_
          go_simp
          have IY := hide (IX.out.set1 (IntKind.i64.wrap (x.to + p.regs)))
          have JY := hide (JS.set HF.out.2.1 GI.out NR.out (o := 1) (c := .int .i64 (IntKind.i64.wrap (x.to + p.regs))))
          have HY := hide (HF.out.1.setCell (p := ⟨gi, 1, none⟩) GI.out.2.2.2.2 (.int .i64 (IntKind.i64.wrap (x.to + p.regs))))
          clear IX t1 f1
          generalize w12d.setCell ⟨gi, 1, none⟩ (.int .i64 (IntKind.i64.wrap (x.to + p.regs))) = w13 at *
          have hb : True := trivial
          have HF' := hide (And.intro HY.out (And.intro JY.out (show ToAny _ gi x from ⟨_, IY.out⟩)))
          refine hK _ _ (fun _ => HF'.out) ?_
          clear hK K HF hb
          have HF := hide HF'.out
          clear HF'
          refine Calm.takeL 14 (i := 12) (v := ?_) (a' := ?_) (l' := #[true, true, true, true, true, true, true, true, true, true, true, true, true, false]) (d := some 97) (by kernel_rfl) rfl (by kernel_rfl) (by kernel_rfl) (by kernel_rfl) (by kernel_rfl) (fun _ _ _ h => h) HF.out rfl ?_ rfl rfl ?_ ?_
          rotate_left
          · intro w' hF; clear hF; go_simp; try rfl
          rotate_left
          · simp only [Act.put]; exact rfl
          refine Calm.one (i := 13) (l' := #[true, true, true, true, true, true, true, true, true, true, true, true, true, true]) (by kernel_rfl) rfl rfl rfl fun K hK => ?_
          have t2 := IY.out.cells.cell2
          simp only [Nat.zero_add] at t2
          have f2 := IY.out.free 2
          go_simp
          refine hK _ _ (fun h => absurd h (by decide)) ?_
          clear hK K
          refine Calm.done (by kernel_rfl) ?_
          have IX := hide (IY.out.set2 (IntKind.i64.wrap (x.a + p.regs)))
          have JX := hide (JS.set HF.out.2.1 GI.out NR.out (o := 2) (c := .int .i64 (IntKind.i64.wrap (x.a + p.regs))))
          clear HF IY JY HY t2 f2
          generalize w13.setCell ⟨gi, 2, none⟩ (.int .i64 (IntKind.i64.wrap (x.a + p.regs))) = w14 at *
          try dsimp only at IX
          obtain ⟨m1, m2, m3, m4, m5, m6, _⟩ := MB.out
          rw [wr64 (n := x.to + p.regs) (by omega) (by omega), wr64 (n := x.a + p.regs) (by omega) (by omega)] at IX
          have k0 := IX.out.cells.cell0
          have k1 := IX.out.cells.cell1
          have k2 := IX.out.cells.cell2
          have k3 := IX.out.cells.cell3
          have k4 := IX.out.cells.cell4
          simp only [Nat.zero_add] at k1 k2 k3 k4
          have x1 := JX.out.px.cell1
          by_cases o3 : x.op = 3
          · have HT : Hid (twoB x.op = true) := hide (by unfold twoB; simp; omega)
            have h3 : (x.op == 3) = true := by simp [o3]
            have f3 := IX.out.free 3
            clear o3
            go_upto_region 18 with fail
            clear k0 k1 k2 k3 k4 x1 f3
            replace JX := hide (JS.set JX.out GI.out NR.out (o := 3) (c := .int .i64 (x.b + p.regs)))
            replace IX := hide (IX.out.set3 (x.b + p.regs))
            generalize w14.setCell ⟨gi, 3, none⟩ (.int .i64 (x.b + p.regs)) = w15 at *
            try dsimp only at IX
            obtain ⟨y, hy⟩ : ∃ y, y = raiseI x p.regs := ⟨_, rfl⟩
            rw [show (⟨x.op, x.to + p.regs, x.a + p.regs, x.b + p.regs, x.c⟩ : Ins) = raiseI x p.regs from by unfold raiseI; rw [HT.out]; rfl, ← hy] at IX
            have HY := hide hy
            clear hy
            have y2 := JX.out.kx.cell2
            have k0 := IX.out.cells.cell0
            have k1 := IX.out.cells.cell1
            have k2 := IX.out.cells.cell2
            have k3 := IX.out.cells.cell3
            have k4 := IX.out.cells.cell4
            simp only [Nat.zero_add] at k1 k2 k3 k4
            have JA := hide (JX.out.step (below_alloc w15 (.cells #[.int .i64 y.op, .int .i64 y.to, .int .i64 y.a, .int .i64 y.b, .int .i64 y.c] 36)))
            go_wp2_with (at_builtin; refine app_code rfl _ _ rfl w.heap.size _ l rfl JA.out.oc _ [y] rfl (code1 w15 y rfl) (by have := LN.out; simp only [List.length_singleton]; omega) JA.out.bel.size ?_)
            intro v' w2 hown hgrow
            clear y2 k0 k1 k2 k3 k4
            obtain ⟨l2, hl2⟩ : ∃ l2, l2 = l ++ [y] := ⟨_, rfl⟩
            rw [← hl2] at hown
            have HL2 := hide hl2
            clear hl2
            have kx' := JA.out.kx.grow hgrow (box_row_ne JA.out.kx JA.out.oc (by decide))
            have y2 := kx'.cell2
            have z2 := kx'.free 2
            have JN := hide (JA.out.app hgrow hown)
            obtain ⟨va', vcap', rfl⟩ := own_slice hown
            clear hgrow hown kx' JA
            go_wp2
            go_roundw
            case rel => exact ⟨k + 1, _, by omega, by go_num, by rw [rsd_succ, ← List.append_assoc, ← HL.out, ← HX.out, ← HY.out, ← HL2.out]; exact JN.out⟩
            case measure => simp [intOf]; omega
          · by_cases o4 : x.op = 4
            · have HT : Hid (twoB x.op = true) := hide (by unfold twoB; simp; omega)
              have h3 : (x.op == 3) = false := by simp [o3]
              have h4 : (x.op == 4) = true := by simp [o4]
              clear o4
              have f3 := IX.out.free 3
              clear o3
              go_upto_region 18 with fail
              clear k0 k1 k2 k3 k4 x1 f3
              replace JX := hide (JS.set JX.out GI.out NR.out (o := 3) (c := .int .i64 (x.b + p.regs)))
              replace IX := hide (IX.out.set3 (x.b + p.regs))
              generalize w14.setCell ⟨gi, 3, none⟩ (.int .i64 (x.b + p.regs)) = w15 at *
              try dsimp only at IX
              obtain ⟨y, hy⟩ : ∃ y, y = raiseI x p.regs := ⟨_, rfl⟩
              rw [show (⟨x.op, x.to + p.regs, x.a + p.regs, x.b + p.regs, x.c⟩ : Ins) = raiseI x p.regs from by unfold raiseI; rw [HT.out]; rfl, ← hy] at IX
              have HY := hide hy
              clear hy
              have y2 := JX.out.kx.cell2
              have k0 := IX.out.cells.cell0
              have k1 := IX.out.cells.cell1
              have k2 := IX.out.cells.cell2
              have k3 := IX.out.cells.cell3
              have k4 := IX.out.cells.cell4
              simp only [Nat.zero_add] at k1 k2 k3 k4
              have JA := hide (JX.out.step (below_alloc w15 (.cells #[.int .i64 y.op, .int .i64 y.to, .int .i64 y.a, .int .i64 y.b, .int .i64 y.c] 36)))
              go_wp2_with (at_builtin; refine app_code rfl _ _ rfl w.heap.size _ l rfl JA.out.oc _ [y] rfl (code1 w15 y rfl) (by have := LN.out; simp only [List.length_singleton]; omega) JA.out.bel.size ?_)
              intro v' w2 hown hgrow
              clear y2 k0 k1 k2 k3 k4
              obtain ⟨l2, hl2⟩ : ∃ l2, l2 = l ++ [y] := ⟨_, rfl⟩
              rw [← hl2] at hown
              have HL2 := hide hl2
              clear hl2
              have kx' := JA.out.kx.grow hgrow (box_row_ne JA.out.kx JA.out.oc (by decide))
              have y2 := kx'.cell2
              have z2 := kx'.free 2
              have JN := hide (JA.out.app hgrow hown)
              obtain ⟨va', vcap', rfl⟩ := own_slice hown
              clear hgrow hown kx' JA
              go_wp2
              go_roundw
              case rel => exact ⟨k + 1, _, by omega, by go_num, by rw [rsd_succ, ← List.append_assoc, ← HL.out, ← HX.out, ← HY.out, ← HL2.out]; exact JN.out⟩
              case measure => simp [intOf]; omega
            · have HT : Hid (twoB x.op = false) := hide (by unfold twoB; simp; omega)
              have h3 : (x.op == 3) = false := by simp [o3]
              have h4 : (x.op == 4) = false := by simp [o4]
              clear o3 o4
              go_upto_region 18 with fail
              clear k0 k1 k2 k3 k4 x1
              obtain ⟨y, hy⟩ : ∃ y, y = raiseI x p.regs := ⟨_, rfl⟩
              rw [show (⟨x.op, x.to + p.regs, x.a + p.regs, x.b, x.c⟩ : Ins) = raiseI x p.regs from by unfold raiseI; rw [HT.out]; rfl, ← hy] at IX
              have HY := hide hy
              clear hy
              have y2 := JX.out.kx.cell2
              have k0 := IX.out.cells.cell0
              have k1 := IX.out.cells.cell1
              have k2 := IX.out.cells.cell2
              have k3 := IX.out.cells.cell3
              have k4 := IX.out.cells.cell4
              simp only [Nat.zero_add] at k1 k2 k3 k4
              have JA := hide (JX.out.step (below_alloc w14 (.cells #[.int .i64 y.op, .int .i64 y.to, .int .i64 y.a, .int .i64 y.b, .int .i64 y.c] 36)))
              go_wp2_with (at_builtin; refine app_code rfl _ _ rfl w.heap.size _ l rfl JA.out.oc _ [y] rfl (code1 w14 y rfl) (by have := LN.out; simp only [List.length_singleton]; omega) JA.out.bel.size ?_)
              intro v' w2 hown hgrow
              clear y2 k0 k1 k2 k3 k4
              obtain ⟨l2, hl2⟩ : ∃ l2, l2 = l ++ [y] := ⟨_, rfl⟩
              rw [← hl2] at hown
              have HL2 := hide hl2
              clear hl2
              have kx' := JA.out.kx.grow hgrow (box_row_ne JA.out.kx JA.out.oc (by decide))
              have y2 := kx'.cell2
              have z2 := kx'.free 2
              have JN := hide (JA.out.app hgrow hown)
              obtain ⟨va', vcap', rfl⟩ := own_slice hown
              clear hgrow hown kx' JA
              go_wp2
              go_roundw
              case rel => exact ⟨k + 1, _, by omega, by go_num, by rw [rsd_succ, ← List.append_assoc, ← HL.out, ← HX.out, ← HY.out, ← HL2.out]; exact JN.out⟩
              case measure => simp [intOf]; omega
        · have e : k = q.code.length := by omega
          subst e
          go_upto_region 20 with fail
          clear x2
          rw [HL.out] at JX
          clear HL LN
          generalize wr = w14 at *
          obtain ⟨l, hl⟩ : ∃ l, l = p.code ++ mvs p p.outs.length ++ rsd p q q.code.length := ⟨_, rfl⟩
          have HL := hide hl
          rw [← hl] at JX
          clear hl
          go_loopw [10] (fun kv wr => ∃ (k : Nat) (vo : Value), k ≤ q.outs.length ∧ kv = .int .i64 k ∧ JS w B C R gk p q (.slice ca p.code.length cc) (.slice oa p.outs.length oc) (.slice ca2 q.code.length cc2) (.slice oa2 q.outs.length oc2) (.slice va l.length vcap) vo l (ots p q k) wr) (fun kv _ => q.outs.length - (intOf kv).toNat)
          case atStart => exact ⟨0, _, Nat.zero_le _, rfl, JX.out⟩
          case round =>
            clear JX
            obtain ⟨k, vo, hk, rfl, hJ⟩ := hrel
            obtain ⟨m, hm⟩ : ∃ m, m = ots p q k := ⟨_, rfl⟩
            rw [← hm] at hJ
            have LN : Hid (m.length ≤ 200) := hide (by rw [hm, ots_length]; omega)
            have HM := hide hm
            clear hm
            obtain ⟨vb, vcb, rfl⟩ := own_slice hJ.oo
            have JX := hide hJ
            clear hJ
            have x3 := JX.out.qx.cell3
            by_cases hlt : k < q.outs.length
            · have k1 := (LO.out.below JX.out.bel).at hlt
              obtain ⟨b, off, rfl, k1⟩ := k1
              obtain ⟨r, hr⟩ : ∃ r, r = ot q.outs k := ⟨_, rfl⟩
              rw [← hr] at k1
              have R1 := hide (Q7.out k hlt)
              rw [← hr] at R1
              have HX := hide hr
              have RC := hide k1
              clear hr k1
              go_upto_region 22 with fail
              clear x3
              refine wp_calm (fun w' => Below w.heap.size w w' ∧ JS w B C R gk p q (.slice ca p.code.length cc) (.slice oa p.outs.length oc) (.slice ca2 q.code.length cc2) (.slice (some ⟨b, off, none⟩) q.outs.length oc2) (.slice va l.length vcap) (.slice vb m.length vcb) l m w' ∧ CellI w' b (off + k) r) (fun j => j != 11 && j != 12 && j != 13) 14 #[false, false, false, false, false, false, false, false, false, false, false, false, false, false] (by kernel_rfl) rfl rfl ?_
              have HF := hide (And.intro JX.out.bel.drew (And.intro JX.out.drew (CellI.drew RC.out)))
              generalize wr.drew = wrd at *
              refine Calm.takeL 14 (i := 0) (v := ?_) (a' := ?_) (l' := #[true, false, false, false, false, false, false, false, false, false, false, false, false, false]) (d := some 125) (by kernel_rfl) rfl (by kernel_rfl) (by kernel_rfl) (by kernel_rfl) (by kernel_rfl) (fun _ _ _ h => h) HF.out rfl ?_ rfl rfl ?_ ?_
              rotate_left
              · intro w' hF; clear hF; go_simp; try rfl
              rotate_left
              · simp only [Act.put]; exact rfl
              refine Calm.takeL 14 (i := 1) (v := ?_) (a' := ?_) (l' := #[true, true, false, false, false, false, false, false, false, false, false, false, false, false]) (d := some 126) (by kernel_rfl) rfl (by kernel_rfl) (by kernel_rfl) (by kernel_rfl) (by kernel_rfl) (fun _ _ _ h => h) HF.out rfl ?_ rfl rfl ?_ ?_
              rotate_left
              · intro w' hF; have f0 := hF.2.1.kx.cell3; have f1 := hF.2.1.px.cell1; have f2 := hF.2.1.qx.cell3; have f3 := hF.2.2.out; clear hF; go_simp; try rfl
              rotate_left
              · simp only [Act.put]; exact rfl
              refine Calm.takeL 14 (i := 2) (v := ?_) (a' := ?_) (l' := #[true, true, true, false, false, false, false, false, false, false, false, false, false, false]) (d := some 127) (by kernel_rfl) rfl (by kernel_rfl) (by kernel_rfl) (by kernel_rfl) (by kernel_rfl) (fun _ _ _ h => h) HF.out rfl ?_ rfl rfl ?_ ?_
              rotate_left
              · intro w' hF; clear hF; go_simp; try rfl
              rotate_left
              · simp only [Act.put]; exact rfl
              refine Calm.takeL 14 (i := 3) (v := ?_) (a' := ?_) (l' := #[true, true, true, true, false, false, false, false, false, false, false, false, false, false]) (d := some 128) (by kernel_rfl) rfl (by kernel_rfl) (by kernel_rfl) (by kernel_rfl) (by kernel_rfl) (fun _ _ _ h => h) HF.out rfl ?_ rfl rfl ?_ ?_
              rotate_left
              · intro w' hF; have f0 := hF.2.1.kx.cell3; have f1 := hF.2.1.px.cell1; have f2 := hF.2.1.qx.cell3; have f3 := hF.2.2.out; clear hF; go_simp; try rfl
              rotate_left
              · simp only [Act.put]; exact rfl
              refine Calm.takeL 14 (i := 4) (v := ?_) (a' := ?_) (l' := #[true, true, true, true, true, false, false, false, false, false, false, false, false, false]) (d := some 129) (by kernel_rfl) rfl (by kernel_rfl) (by kernel_rfl) (by kernel_rfl) (by kernel_rfl) (fun _ _ _ h => h) HF.out rfl ?_ rfl rfl ?_ ?_
              rotate_left
              · intro w' hF; clear hF; go_simp; try rfl
              rotate_left
              · simp only [Act.put]; exact rfl
              refine Calm.takeL 14 (i := 5) (v := ?_) (a' := ?_) (l' := #[true, true, true, true, true, true, false, false, false, false, false, false, false, false]) (d := some 130) (by kernel_rfl) rfl (by kernel_rfl) (by kernel_rfl) (by kernel_rfl) (by kernel_rfl) (fun _ _ _ h => h) HF.out rfl ?_ rfl rfl ?_ ?_
              rotate_left
              · intro w' hF; clear hF; go_simp; try rfl
              rotate_left
              · simp only [Act.put]; exact rfl
              refine Calm.takeL 14 (i := 6) (v := ?_) (a' := ?_) (l' := #[true, true, true, true, true, true, true, false, false, false, false, false, false, false]) (d := some 131) (by kernel_rfl) rfl (by kernel_rfl) (by kernel_rfl) (by kernel_rfl) (by kernel_rfl) (fun _ _ _ h => h) HF.out rfl ?_ rfl rfl ?_ ?_
              rotate_left
              · intro w' hF; have f0 := hF.2.1.kx.cell3; have f1 := hF.2.1.px.cell1; have f2 := hF.2.1.qx.cell3; have f3 := hF.2.2.out; clear hF; go_simp; try rfl
              rotate_left
              · simp only [Act.put]; exact rfl
              refine Calm.takeL 14 (i := 7) (v := ?_) (a' := ?_) (l' := #[true, true, true, true, true, true, true, true, false, false, false, false, false, false]) (d := some 132) (by kernel_rfl) rfl (by kernel_rfl) (by kernel_rfl) (by kernel_rfl) (by kernel_rfl) (fun _ _ _ h => h) HF.out rfl ?_ rfl rfl ?_ ?_
              rotate_left
              · intro w' hF; clear hF; go_simp; try rfl
              rotate_left
              · simp only [Act.put]; exact rfl
              refine Calm.takeL 14 (i := 8) (v := ?_) (a' := ?_) (l' := #[true, true, true, true, true, true, true, true, true, false, false, false, false, false]) (d := some 133) (by kernel_rfl) rfl (by kernel_rfl) (by kernel_rfl) (by kernel_rfl) (by kernel_rfl) (fun _ _ _ h => h) HF.out rfl ?_ rfl rfl ?_ ?_
              rotate_left
              · intro w' hF; have f0 := hF.2.1.kx.cell3; have f1 := hF.2.1.px.cell1; have f2 := hF.2.1.qx.cell3; have f3 := hF.2.2.out; clear hF; go_simp; try rfl
              rotate_left
              · simp only [Act.put]; exact rfl
              refine Calm.takeL 14 (i := 9) (v := ?_) (a' := ?_) (l' := #[true, true, true, true, true, true, true, true, true, true, false, false, false, false]) (d := some 134) (by kernel_rfl) rfl (by kernel_rfl) (by kernel_rfl) (by kernel_rfl) (by kernel_rfl) (fun _ _ _ h => h) HF.out rfl ?_ rfl rfl ?_ ?_
              rotate_left
              · intro w' hF; clear hF; go_simp; try rfl
              rotate_left
              · simp only [Act.put]; exact rfl
              refine Calm.one (i := 10) (l' := #[true, true, true, true, true, true, true, true, true, true, true, false, false, false]) (by kernel_rfl) rfl rfl rfl fun K hK => ?_
              go_simp
              have al := below_alloc wrd (.cells #[.int .i64 (IntKind.i64.wrap (r + p.regs))] 3)
              have HF' := hide (And.intro (HF.out.1.trans ((al).mono HF.out.1.size)) (And.intro (HF.out.2.1.step (al)) (HF.out.2.2.step (al))))
              have BXe := hide ((show IntsAt (wrd.alloc (.cells #[.int .i64 (IntKind.i64.wrap (r + p.regs))] 3)) (.slice (some ⟨wrd.heap.size, 0, none⟩) 1 1) [(IntKind.i64.wrap (r + p.regs))] from int1 wrd (IntKind.i64.wrap (r + p.regs)) rfl))
              have GEe := hide (HF.out.1.size)
              refine hK _ _ (fun _ => HF'.out) ?_
              clear hK K HF al
              have HF := hide HF'.out
              clear HF'
              generalize wrd.alloc (.cells #[.int .i64 (IntKind.i64.wrap (r + p.regs))] 3) = wze at *
              generalize wrd.heap.size = ge at *
              refine Calm.one (i := 11) (l' := #[true, true, true, true, true, true, true, true, true, true, true, true, false, false]) (by kernel_rfl) rfl rfl rfl fun K hK => ?_
              refine app_outsW (.tmp 126) (.tmp 135) rfl w.heap.size _ m rfl HF.out.2.1.oo ge (IntKind.i64.wrap (r + p.regs)) rfl BXe.out (by have := LN.out; omega) HF.out.1.size ?_
              intro v' w2 hown hgrow
              obtain ⟨m2, hm2⟩ : ∃ m2, m2 = m ++ [(IntKind.i64.wrap (r + p.regs))] := ⟨_, rfl⟩
              rw [← hm2] at hown
              have HM2 := hide hm2
              clear hm2
              have kx' := HF.out.2.1.kx.grow hgrow (box_row_ne HF.out.2.1.kx HF.out.2.1.oo (by decide))
              have y2 := kx'.cell3
              have z2 := kx'.free 3
              have JN := hide (HF.out.2.1.appO hgrow hown)
              obtain ⟨vb', vcb', rfl⟩ := own_slice hown
              clear hgrow hown kx'
              refine hK _ _ (fun h => absurd h (by decide)) ?_
              clear hK K
              refine Calm.one (i := 12) (l' := #[true, true, true, true, true, true, true, true, true, true, true, true, true, false]) (by kernel_rfl) rfl rfl rfl fun K hK => ?_
              go_simp
              refine hK _ _ (fun h => absurd h (by decide)) ?_
              clear hK K
              refine Calm.one (i := 13) (l' := #[true, true, true, true, true, true, true, true, true, true, true, true, true, true]) (by kernel_rfl) rfl rfl rfl fun K hK => ?_
              go_simp
              refine hK _ _ (fun h => absurd h (by decide)) ?_
              clear hK K
              refine Calm.done (by kernel_rfl) ?_
              clear HF BXe
              go_wp2
              go_roundw
              case rel => exact ⟨k + 1, _, by omega, by go_num, by rw [ots_succ, ← HM.out, ← HX.out, show p.regs + r = (IntKind.i64.wrap (r + p.regs)) from by have := R1.out; rw [wr64 (by omega) (by omega)]; omega, ← HM2.out]; exact JN.out⟩
              case measure => simp [intOf]; omega
            · have e : k = q.outs.length := by omega
              subst e
              have k0 := JX.out.kx.cell0
              have k1 := JX.out.kx.cell1
              have k2 := JX.out.kx.cell2
              have k3 := JX.out.kx.cell3
              have r0 := JX.out.rx.cell0
              have r1 := JX.out.rx.cell1
              have r2 := JX.out.rx.cell2
              have r3 := JX.out.rx.cell3
              have f0 := JX.out.rx.free 0
              have f1 := JX.out.rx.free 1
              have f2 := JX.out.rx.free 2
              have f3 := JX.out.rx.free 3
              go_wp2
              refine ret_pge rfl R _ _ _ _ rfl (JX.out.rx.put _ _ _ _) rfl ?_
              rw [E1.out, E2.out]
              exact ⟨⟨_, rfl, JX.out.done (joined p q) rfl rfl HL.out.symm HM.out.symm _ _ _ _⟩, below_put4 JX.out.bel JX.out.ne.2.2.2.2 _ _ _ _⟩
end Go.Proofs.YtlbjkfnknkpkiaaDoor
