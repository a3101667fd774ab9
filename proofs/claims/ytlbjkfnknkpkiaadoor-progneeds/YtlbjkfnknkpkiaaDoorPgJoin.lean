/- prog.Join. -/
import Derived.Test.YtlbjkfnknkpkiaaDoorPgJoin1
import Derived.Test.YtlbjkfnknkpkiaaDoorPgChecksWalk
namespace Go.Proofs.YtlbjkfnknkpkiaaDoor
open Go.RowKit

theorem app_codeW {w : World} {o : Oper} {a : Act} {K : Act → World → Prop} {Q : Exit → Act → World → Prop} (s x : Operand)
    (ho : o.op = .call { callee := .builtin .append, args := #[s, x], argTypes := #[22, 22] }) (base : Nat) (v : Value) (k : List Ins) (hs : a.eval s = v) (hown : OwnC w base v k)
    (b : Nat) (i : Ins) (hx : a.eval x = .slice (some ⟨b, 0, none⟩) 1 1) (hu : CodeAt w (.slice (some ⟨b, 0, none⟩) 1 1) [i]) (hlen : k.length ≤ 90000) (hbase : base ≤ w.heap.size)
    (h : ∀ v' w', OwnC w' base v' (k ++ [i]) → w.grownBy w' v.ownBlock → K (a.put o.dst v') w') : o.wp Tryd.prog a w K Q := by
  obtain ⟨i0, hi, hz0, hz1, hz2⟩ := info_parts info_ins
  refine wp_append_own _ s x 22 ho base 36 i0 (.agg #[.int .i64 0, .int .i64 0, .int .i64 0, .int .i64 0, .int .i64 0]) 5 40 Tryd.underlying22 hi hz0 hz1 hz2 rfl (by decide) v _ _ hs hown ⟨b, 0, none⟩ 1 1 (insCells [i]) hx hu.news.1 hu.news.2 (ins_one _) (by unfold maxLen; omega) (by omega) hbase ?_
  intro v' w' ho' hg _
  exact h v' w' (by show w'.ownsRow base 36 5 v' (k ++ [i]).length (insCells (k ++ [i])); rw [List.length_append, insCells_append]; exact ho') hg
theorem app_outsW {w : World} {o : Oper} {a : Act} {K : Act → World → Prop} {Q : Exit → Act → World → Prop} (s x : Operand)
    (ho : o.op = .call { callee := .builtin .append, args := #[s, x], argTypes := #[23, 23] }) (base : Nat) (v : Value) (k : List Int) (hs : a.eval s = v) (hown : OwnO w base v k)
    (b : Nat) (i : Int) (hx : a.eval x = .slice (some ⟨b, 0, none⟩) 1 1) (hu : IntsAt w (.slice (some ⟨b, 0, none⟩) 1 1) [i]) (hlen : k.length ≤ 90000) (hbase : base ≤ w.heap.size)
    (h : ∀ v' w', OwnO w' base v' (k ++ [i]) → w.grownBy w' v.ownBlock → K (a.put o.dst v') w') : o.wp Tryd.prog a w K Q := by
  obtain ⟨i0, hi, hz0, hz1, hz2⟩ := info_parts info_int
  refine wp_append_own _ s x 23 ho base 3 i0 (.int .i64 0) 1 8 Tryd.underlying23 hi hz0 hz1 hz2 rfl (by decide) v _ _ hs hown ⟨b, 0, none⟩ 1 1 (intCells [i]) hx hu.news.1 hu.news.2 (int_one _) (by unfold maxLen; omega) (by omega) hbase ?_
  intro v' w' ho' hg _
  exact h v' w' (by show w'.ownsRow base 3 1 v' (k ++ [i]).length (intCells (k ++ [i])); rw [List.length_append, intCells_append]; exact ho') hg
theorem own_put_ne {w : World} {base : Nat} {e : TypeId} {size n : Nat} {v : Value} {xs : List Value} (h : w.ownsRow base e size v n xs) {K : Nat} (hne : v.ownBlock ≠ some K) (x' y' u' v' : Value) : ((((w.setCell ⟨K, 0, none⟩ x').setCell ⟨K, 1, none⟩ y').setCell ⟨K, 2, none⟩ u').setCell ⟨K, 3, none⟩ v').ownsRow base e size v n xs :=
  own_set_ne (own_set_ne (own_set_ne (own_set_ne h hne _) hne _) hne _) hne _
theorem JS.start {w0 w : World} {B C R K : Nat} {p q : Pg} {pc po qc qo vc z0 z1 z2 z3 : Value} {x : List Ins} (h1 : Below w0.heap.size w0 w) (h2 : Box4 w B 25 (.int .i64 p.ins) (.int .i64 p.regs) pc po) (h3 : Box4 w C 25 (.int .i64 q.ins) (.int .i64 q.regs) qc qo)
    (h4 : Box4 w R 25 (.int .i64 0) (.int .i64 0) (.slice none 0 0) (.slice none 0 0)) (h5 : Box4 w K 25 z0 z1 z2 z3) (h6 : OwnC w w0.heap.size vc x) (ne : B ≠ K ∧ C ≠ K ∧ R ≠ K ∧ w0.heap.size ≤ K ∧ w0.heap.size ≤ R) :
    JS w0 B C R K p q pc po qc qo vc (.slice none 0 0) x [] ((((w.setCell ⟨K, 0, none⟩ (.int .i64 p.ins)).setCell ⟨K, 1, none⟩ (.int .i64 (p.regs + q.regs))).setCell ⟨K, 2, none⟩ vc).setCell ⟨K, 3, none⟩ (.slice none 0 0)) :=
  ⟨below_put4 h1 ne.2.2.2.1 _ _ _ _, h2.other4 (fun e => ne.1 e.symm) _ _ _ _, h3.other4 (fun e => ne.2.1 e.symm) _ _ _ _, h4.other4 (fun e => ne.2.2.1 e.symm) _ _ _ _, h5.put _ _ _ _, own_put_ne h6 (box_row_ne h5 h6 (by decide)) _ _ _ _, World.ownsRow_nil _ _ _ _, ne⟩
theorem JS.done {w0 w : World} {B C R K : Nat} {p q : Pg} {pc po qc qo vc vo : Value} {x : List Ins} {y : List Int} (h : JS w0 B C R K p q pc po qc qo vc vo x y w) (r : Pg) (h1 : r.ins = p.ins) (h2 : r.regs = p.regs + q.regs) (h3 : r.code = x) (h4 : r.outs = y) (z0 z1 z2 z3 : Value) :
    PgAt ((((w.setCell ⟨R, 0, none⟩ z0).setCell ⟨R, 1, none⟩ z1).setCell ⟨R, 2, none⟩ z2).setCell ⟨R, 3, none⟩ z3) (.agg #[.int .i64 p.ins, .int .i64 (p.regs + q.regs), vc, vo]) r := by
  obtain ⟨ri, rr, rc, ro⟩ := r
  simp only at h1 h2 h3 h4
  subst h1 h2 h3 h4
  have o1 := own_put_ne h.oc (box_row_ne h.rx h.oc (by decide)) z0 z1 z2 z3
  have o2 := own_put_ne h.oo (box_row_ne h.rx h.oo (by decide)) z0 z1 z2 z3
  obtain ⟨a, c, rfl⟩ := own_slice o1
  obtain ⟨a', c', rfl⟩ := own_slice o2
  exact ⟨a, c, a', c', rfl, OwnC.at o1, OwnO.at o2⟩
theorem no_at (w : World) : PgAt w (.agg #[.int .i64 0, .int .i64 0, .slice none 0 0, .slice none 0 0]) noPg := ⟨none, 0, none, 0, rfl, ⟨none, 0, rfl, Nat.le_refl _, Nat.zero_le _, fun h => absurd rfl h⟩, ⟨none, 0, rfl, Nat.le_refl _, Nat.zero_le _, fun h => absurd rfl h⟩⟩

set_option maxRecDepth 100000 in
set_option maxHeartbeats 8000000 in
theorem join_wrong (u v : Value) (p q : Pg) (w : World) (hu : PgAt w u p) (hv : PgAt w v q) (hr : rightB p = false ∨ rightB q = false) :
    Calls Tryd.prog 25 #[u, v] w fun e w' => JoinR w' e 80 noPg ∧ Below w.heap.size w w' := by
  have HP := hide hu
  have HQ := hide hv
  obtain ⟨ca, cc, oa, oc, rfl, hc, ho⟩ := hu
  obtain ⟨ca2, cc2, oa2, oc2, rfl, hc2, ho2⟩ := hv
  have KC := hide hc
  have KO := hide ho
  have LC := hide hc2
  have LO := hide ho2
  clear hc ho hc2 ho2
  go_enter Tryd.func25, Tryd.ntmps25
  go_upto_region 1 with fail
  have b1 := below_alloc w (.cells #[.int .i64 p.ins, .int .i64 p.regs, .slice ca p.code.length cc, .slice oa p.outs.length oc] 25)
  have b2 := below_alloc (w.alloc (.cells #[.int .i64 p.ins, .int .i64 p.regs, .slice ca p.code.length cc, .slice oa p.outs.length oc] 25)) (.cells #[.int .i64 q.ins, .int .i64 q.regs, .slice ca2 q.code.length cc2, .slice oa2 q.outs.length oc2] 25)
  have b3 := below_alloc ((w.alloc (.cells #[.int .i64 p.ins, .int .i64 p.regs, .slice ca p.code.length cc, .slice oa p.outs.length oc] 25)).alloc (.cells #[.int .i64 q.ins, .int .i64 q.regs, .slice ca2 q.code.length cc2, .slice oa2 q.outs.length oc2] 25)) (.cells #[.int .i64 0, .int .i64 0, .slice none 0 0, .slice none 0 0] 25)
  have PX := hide (((Box4.new w 25 (.int .i64 p.ins) (.int .i64 p.regs) (.slice ca p.code.length cc) (.slice oa p.outs.length oc)).step b2).step b3)
  have PY := hide ((Box4.new (w.alloc (.cells #[.int .i64 p.ins, .int .i64 p.regs, .slice ca p.code.length cc, .slice oa p.outs.length oc] 25)) 25 (.int .i64 q.ins) (.int .i64 q.regs) (.slice ca2 q.code.length cc2) (.slice oa2 q.outs.length oc2)).step b3)
  have RX := hide (Box4.new ((w.alloc (.cells #[.int .i64 p.ins, .int .i64 p.regs, .slice ca p.code.length cc, .slice oa p.outs.length oc] 25)).alloc (.cells #[.int .i64 q.ins, .int .i64 q.regs, .slice ca2 q.code.length cc2, .slice oa2 q.outs.length oc2] 25)) 25 (.int .i64 0) (.int .i64 0) (.slice none 0 0) (.slice none 0 0))
  simp only [World.size_alloc] at PY RX
  have HB := hide (b1.trans ((b2.trans (b3.mono b2.size)).mono b1.size))
  clear b1 b2 b3
  generalize ((w.alloc (.cells #[.int .i64 p.ins, .int .i64 p.regs, .slice ca p.code.length cc, .slice oa p.outs.length oc] 25)).alloc (.cells #[.int .i64 q.ins, .int .i64 q.regs, .slice ca2 q.code.length cc2, .slice oa2 q.outs.length oc2] 25)).alloc (.cells #[.int .i64 0, .int .i64 0, .slice none 0 0, .slice none 0 0] 25) = w1 at *
  obtain ⟨B, hB⟩ : ∃ B, B = w.heap.size := ⟨_, rfl⟩
  have HZ := hide hB
  rw [← hB] at PX PY RX ⊢
  clear hB
  try simp only [Nat.add_assoc, Nat.reduceAdd] at PY RX ⊢
  obtain ⟨C, hC⟩ : ∃ C, C = B + 1 := ⟨_, rfl⟩
  obtain ⟨R, hR⟩ : ∃ R, R = B + 2 := ⟨_, rfl⟩
  have HC := hide hC
  have HR := hide hR
  rw [← hC] at PY ⊢
  rw [← hR] at RX ⊢
  clear hC hR
  have c0 := PX.out.cell0
  have c1 := PX.out.cell1
  have c2 := PX.out.cell2
  have c3 := PX.out.cell3
  have d0 := PY.out.cell0
  have d1 := PY.out.cell1
  have d2 := PY.out.cell2
  have d3 := PY.out.cell3
  go_wp2_with fail
  refine (check_any _ p _ (HP.out.below HB.out)).mono ?_
  rintro e w2 ⟨rfl, hb⟩
  replace PX := hide (PX.out.step hb)
  replace PY := hide (PY.out.step hb)
  replace RX := hide (RX.out.step hb)
  replace HB := hide (HB.out.trans (hb.mono HB.out.size))
  clear hb
  clear c0 c1 c2 c3 d0 d1 d2 d3
  have c0 := PX.out.cell0
  have c1 := PX.out.cell1
  have c2 := PX.out.cell2
  have c3 := PX.out.cell3
  have d0 := PY.out.cell0
  have d1 := PY.out.cell1
  have d2 := PY.out.cell2
  have d3 := PY.out.cell3
  cases hp : rightB p with
  | false =>
    rw [ck_wrong hp]
    generalize chkK p = kp
    go_wp2_with fail
    refine (check_any _ q _ (HQ.out.below HB.out)).mono ?_
    rintro e w3 ⟨rfl, hb⟩
    replace PX := hide (PX.out.step hb)
    replace PY := hide (PY.out.step hb)
    replace RX := hide (RX.out.step hb)
    replace HB := hide (HB.out.trans (hb.mono HB.out.size))
    clear hb
    clear c0 c1 c2 c3 d0 d1 d2 d3
    unfold ckV
    generalize chkK q = kq
    generalize (if rightB q = true then (0 : Int) else 80) = eq
    have r0 := RX.out.cell0
    have r1 := RX.out.cell1
    have r2 := RX.out.cell2
    have r3 := RX.out.cell3
    have f0 := RX.out.free 0
    have f1 := RX.out.free 1
    have f2 := RX.out.free 2
    have f3 := RX.out.free 3
    go_wp2
    refine ret_pge rfl R _ _ _ _ rfl (RX.out.put _ _ _ _) rfl ?_
    exact ⟨⟨_, rfl, no_at _⟩, below_put4 HB.out (by have := HR.out; have := HZ.out; omega) _ _ _ _⟩
  | true =>
    have hq : rightB q = false := by
      rcases hr with h | h
      · rw [hp] at h; cases h
      · exact h
    rw [ck_right hp]
    go_wp2_with fail
    refine (check_any _ q _ (HQ.out.below HB.out)).mono ?_
    rintro e w3 ⟨rfl, hb⟩
    replace PX := hide (PX.out.step hb)
    replace PY := hide (PY.out.step hb)
    replace RX := hide (RX.out.step hb)
    replace HB := hide (HB.out.trans (hb.mono HB.out.size))
    clear hb
    clear c0 c1 c2 c3 d0 d1 d2 d3
    rw [ck_wrong hq]
    generalize chkK q = kq
    have r0 := RX.out.cell0
    have r1 := RX.out.cell1
    have r2 := RX.out.cell2
    have r3 := RX.out.cell3
    have f0 := RX.out.free 0
    have f1 := RX.out.free 1
    have f2 := RX.out.free 2
    have f3 := RX.out.free 3
    go_wp2
    refine ret_pge rfl R _ _ _ _ rfl (RX.out.put _ _ _ _) rfl ?_
    exact ⟨⟨_, rfl, no_at _⟩, below_put4 HB.out (by have := HR.out; have := HZ.out; omega) _ _ _ _⟩

set_option maxRecDepth 100000 in
set_option maxHeartbeats 16000000 in
theorem join_right (u v : Value) (p q : Pg) (w : World) (hu : PgAt w u p) (hv : PgAt w v q) (hp : rightB p = true) (hq : rightB q = true) :
    Calls Tryd.prog 25 #[u, v] w fun e w' => JoinR w' e (joinE p q) (joinP p q) ∧ Below w.heap.size w w' := by
  have HP := hide hu
  have HQ := hide hv
  obtain ⟨ca, cc, oa, oc, rfl, hc, ho⟩ := hu
  obtain ⟨ca2, cc2, oa2, oc2, rfl, hc2, ho2⟩ := hv
  have KC := hide hc
  have KO := hide ho
  have LC := hide hc2
  have LO := hide ho2
  clear hc ho hc2 ho2
  go_enter Tryd.func25, Tryd.ntmps25
  go_upto_region 1 with fail
  have b1 := below_alloc w (.cells #[.int .i64 p.ins, .int .i64 p.regs, .slice ca p.code.length cc, .slice oa p.outs.length oc] 25)
  have b2 := below_alloc (w.alloc (.cells #[.int .i64 p.ins, .int .i64 p.regs, .slice ca p.code.length cc, .slice oa p.outs.length oc] 25)) (.cells #[.int .i64 q.ins, .int .i64 q.regs, .slice ca2 q.code.length cc2, .slice oa2 q.outs.length oc2] 25)
  have b3 := below_alloc ((w.alloc (.cells #[.int .i64 p.ins, .int .i64 p.regs, .slice ca p.code.length cc, .slice oa p.outs.length oc] 25)).alloc (.cells #[.int .i64 q.ins, .int .i64 q.regs, .slice ca2 q.code.length cc2, .slice oa2 q.outs.length oc2] 25)) (.cells #[.int .i64 0, .int .i64 0, .slice none 0 0, .slice none 0 0] 25)
  have PX := hide (((Box4.new w 25 (.int .i64 p.ins) (.int .i64 p.regs) (.slice ca p.code.length cc) (.slice oa p.outs.length oc)).step b2).step b3)
  have PY := hide ((Box4.new (w.alloc (.cells #[.int .i64 p.ins, .int .i64 p.regs, .slice ca p.code.length cc, .slice oa p.outs.length oc] 25)) 25 (.int .i64 q.ins) (.int .i64 q.regs) (.slice ca2 q.code.length cc2) (.slice oa2 q.outs.length oc2)).step b3)
  have RX := hide (Box4.new ((w.alloc (.cells #[.int .i64 p.ins, .int .i64 p.regs, .slice ca p.code.length cc, .slice oa p.outs.length oc] 25)).alloc (.cells #[.int .i64 q.ins, .int .i64 q.regs, .slice ca2 q.code.length cc2, .slice oa2 q.outs.length oc2] 25)) 25 (.int .i64 0) (.int .i64 0) (.slice none 0 0) (.slice none 0 0))
  simp only [World.size_alloc] at PY RX
  have HB := hide (b1.trans ((b2.trans (b3.mono b2.size)).mono b1.size))
  clear b1 b2 b3
  generalize ((w.alloc (.cells #[.int .i64 p.ins, .int .i64 p.regs, .slice ca p.code.length cc, .slice oa p.outs.length oc] 25)).alloc (.cells #[.int .i64 q.ins, .int .i64 q.regs, .slice ca2 q.code.length cc2, .slice oa2 q.outs.length oc2] 25)).alloc (.cells #[.int .i64 0, .int .i64 0, .slice none 0 0, .slice none 0 0] 25) = w1 at *
  obtain ⟨B, hB⟩ : ∃ B, B = w.heap.size := ⟨_, rfl⟩
  have HZ := hide hB
  rw [← hB] at PX PY RX ⊢
  clear hB
  try simp only [Nat.add_assoc, Nat.reduceAdd] at PY RX ⊢
  obtain ⟨C, hC⟩ : ∃ C, C = B + 1 := ⟨_, rfl⟩
  obtain ⟨R, hR⟩ : ∃ R, R = B + 2 := ⟨_, rfl⟩
  have HC := hide hC
  have HR := hide hR
  rw [← hC] at PY ⊢
  rw [← hR] at RX ⊢
  clear hC hR
  have GP := hide hp
  have GQ := hide hq
  clear hp hq
  have c0 := PX.out.cell0
  have c1 := PX.out.cell1
  have c2 := PX.out.cell2
  have c3 := PX.out.cell3
  have d0 := PY.out.cell0
  have d1 := PY.out.cell1
  have d2 := PY.out.cell2
  have d3 := PY.out.cell3
  go_wp2_with fail
  refine (check_any _ p _ (HP.out.below HB.out)).mono ?_
  rintro e w2 ⟨rfl, hb⟩
  replace PX := hide (PX.out.step hb)
  replace PY := hide (PY.out.step hb)
  replace RX := hide (RX.out.step hb)
  replace HB := hide (HB.out.trans (hb.mono HB.out.size))
  clear hb
  clear c0 c1 c2 c3 d0 d1 d2 d3
  have c0 := PX.out.cell0
  have c1 := PX.out.cell1
  have c2 := PX.out.cell2
  have c3 := PX.out.cell3
  have d0 := PY.out.cell0
  have d1 := PY.out.cell1
  have d2 := PY.out.cell2
  have d3 := PY.out.cell3
  rw [ck_right GP.out]
  go_wp2_with fail
  refine (check_any _ q _ (HQ.out.below HB.out)).mono ?_
  rintro e w3 ⟨rfl, hb⟩
  replace PX := hide (PX.out.step hb)
  replace PY := hide (PY.out.step hb)
  replace RX := hide (RX.out.step hb)
  replace HB := hide (HB.out.trans (hb.mono HB.out.size))
  clear hb
  clear c0 c1 c2 c3 d0 d1 d2 d3
  have c0 := PX.out.cell0
  have c1 := PX.out.cell1
  have c2 := PX.out.cell2
  have c3 := PX.out.cell3
  have d0 := PY.out.cell0
  have d1 := PY.out.cell1
  have d2 := PY.out.cell2
  have d3 := PY.out.cell3
  rw [ck_right GQ.out]
  obtain ⟨p1, p2, p3, p4, p5, p6, p7, p8⟩ := right_parts GP.out
  obtain ⟨q1, q2, q3, q4, q5, q6, q7, q8⟩ := right_parts GQ.out
  have P7 := hide p7
  have Q7 := hide q7
  have P8 := hide p8
  have Q8 := hide q8
  clear p7 p8 q7 q8
  by_cases g1 : q.ins = p.outs.length
  case neg =>
    have g2 : (q.ins != (p.outs.length : Int)) = true := by simp [g1]
    have e1 : joinE p q = 5 := if_pos g1
    have e2 : joinP p q = noPg := if_neg (by rw [e1]; decide)
    have E1 := hide e1
    have E2 := hide e2
    clear e1 e2
    have r0 := RX.out.cell0
    have r1 := RX.out.cell1
    have r2 := RX.out.cell2
    have r3 := RX.out.cell3
    have f0 := RX.out.free 0
    have f1 := RX.out.free 1
    have f2 := RX.out.free 2
    have f3 := RX.out.free 3
    go_wp2
    refine ret_pge rfl R _ _ _ _ rfl (RX.out.put _ _ _ _) rfl ?_
    rw [E1.out, E2.out]
    exact ⟨⟨_, rfl, no_at _⟩, below_put4 HB.out (by have := HR.out; have := HZ.out; omega) _ _ _ _⟩
  have g2 : (q.ins != (p.outs.length : Int)) = false := by simp [g1]
  by_cases g3 : 128 < p.regs + q.regs
  case pos =>
    have e1 : joinE p q = 3 := (if_neg (fun h => h g1)).trans (if_pos (.inl g3))
    have e2 : joinP p q = noPg := if_neg (by rw [e1]; decide)
    have E1 := hide e1
    have E2 := hide e2
    clear e1 e2
    have r0 := RX.out.cell0
    have r1 := RX.out.cell1
    have r2 := RX.out.cell2
    have r3 := RX.out.cell3
    have f0 := RX.out.free 0
    have f1 := RX.out.free 1
    have f2 := RX.out.free 2
    have f3 := RX.out.free 3
    go_wp2
    refine ret_pge rfl R _ _ _ _ rfl (RX.out.put _ _ _ _) rfl ?_
    rw [E1.out, E2.out]
    exact ⟨⟨_, rfl, no_at _⟩, below_put4 HB.out (by have := HR.out; have := HZ.out; omega) _ _ _ _⟩
  by_cases g4 : 16384 < (p.code.length : Int) + q.ins + (q.code.length : Int)
  case pos =>
    have e1 : joinE p q = 3 := (if_neg (fun h => h g1)).trans (if_pos (.inr g4))
    have e2 : joinP p q = noPg := if_neg (by rw [e1]; decide)
    have E1 := hide e1
    have E2 := hide e2
    clear e1 e2
    have r0 := RX.out.cell0
    have r1 := RX.out.cell1
    have r2 := RX.out.cell2
    have r3 := RX.out.cell3
    have f0 := RX.out.free 0
    have f1 := RX.out.free 1
    have f2 := RX.out.free 2
    have f3 := RX.out.free 3
    go_wp2
    refine ret_pge rfl R _ _ _ _ rfl (RX.out.put _ _ _ _) rfl ?_
    rw [E1.out, E2.out]
    exact ⟨⟨_, rfl, no_at _⟩, below_put4 HB.out (by have := HR.out; have := HZ.out; omega) _ _ _ _⟩
  have e1 : joinE p q = 0 := (if_neg (fun h => h g1)).trans (if_neg (fun h => h.elim g3 g4))
  have e2 : joinP p q = joined p q := if_pos e1
  have E1 := hide e1
  have E2 := hide e2
  clear e1 e2
  go_upto_region 9 with fail
  have G1 := hide g1
  have WP : Hid (IntKind.i64.wrap (p.regs + q.regs) = p.regs + q.regs) := hide (wr64 (by omega) (by omega))
  clear c0 c1 c2 c3 d0 d1 d2 d3 g2 g1
  go_cut [10] from 64 (fun pk wx => ∃ (gk : Nat) (vc : Value), pk = .pointer (some ⟨gk, 0, none⟩) ∧ JS w B C R gk p q (.slice ca p.code.length cc) (.slice oa p.outs.length oc) (.slice ca2 q.code.length cc2) (.slice oa2 q.outs.length oc2) vc (.slice none 0 0) p.code [] wx)
  case first =>
    refine wp_calm (fun w' => Below w.heap.size w w' ∧ Box4 w' B 25 (.int .i64 p.ins) (.int .i64 p.regs) (.slice ca p.code.length cc) (.slice oa p.outs.length oc) ∧ Box4 w' C 25 (.int .i64 q.ins) (.int .i64 q.regs) (.slice ca2 q.code.length cc2) (.slice oa2 q.outs.length oc2) ∧ Box4 w' R 25 (.int .i64 0) (.int .i64 0) (.slice none 0 0) (.slice none 0 0)) (fun j => j != 12) 13 #[false, false, false, false, false, false, false, false, false, false, false, false, false] (by kernel_rfl) rfl rfl ?_
    have HF := hide (And.intro HB.out.drew (And.intro PX.out.drew (And.intro PY.out.drew RX.out.drew)))
    generalize w3.drew = w3d at *
    refine Calm.takeL 13 (i := 0) (v := ?_) (a' := ?_) (l' := #[true, false, false, false, false, false, false, false, false, false, false, false, false]) (d := some 64) (by kernel_rfl) rfl (by kernel_rfl) (by kernel_rfl) (by kernel_rfl) (by kernel_rfl) (fun _ _ _ h => h) HF.out rfl ?_ rfl rfl ?_ ?_
    rotate_left
    · intro w' hF; clear hF; go_simp; try rfl
    rotate_left
    · simp only [Act.put]; exact rfl
    refine Calm.takeL 13 (i := 1) (v := ?_) (a' := ?_) (l' := #[true, true, false, false, false, false, false, false, false, false, false, false, false]) (d := some 65) (by kernel_rfl) rfl (by kernel_rfl) (by kernel_rfl) (by kernel_rfl) (by kernel_rfl) (fun _ _ _ h => h) HF.out rfl ?_ rfl rfl ?_ ?_
    rotate_left
    · intro w' hF; have f10 := hF.2.1.cell0; have f11 := hF.2.1.cell1; have f12 := hF.2.1.cell2; have f13 := hF.2.1.cell3; have f20 := hF.2.2.1.cell0; have f21 := hF.2.2.1.cell1; have f22 := hF.2.2.1.cell2; have f23 := hF.2.2.1.cell3; have f30 := hF.2.2.2.cell0; have f31 := hF.2.2.2.cell1; have f32 := hF.2.2.2.cell2; have f33 := hF.2.2.2.cell3; clear hF; go_simp; try rfl
    rotate_left
    · simp only [Act.put]; exact rfl
    refine Calm.takeL 13 (i := 2) (v := ?_) (a' := ?_) (l' := #[true, true, true, false, false, false, false, false, false, false, false, false, false]) (d := some 66) (by kernel_rfl) rfl (by kernel_rfl) (by kernel_rfl) (by kernel_rfl) (by kernel_rfl) (fun _ _ _ h => h) HF.out rfl ?_ rfl rfl ?_ ?_
    rotate_left
    · intro w' hF; clear hF; go_simp; try rfl
    rotate_left
    · simp only [Act.put]; exact rfl
    refine Calm.takeL 13 (i := 3) (v := ?_) (a' := ?_) (l' := #[true, true, true, true, false, false, false, false, false, false, false, false, false]) (d := some 67) (by kernel_rfl) rfl (by kernel_rfl) (by kernel_rfl) (by kernel_rfl) (by kernel_rfl) (fun _ _ _ h => h) HF.out rfl ?_ rfl rfl ?_ ?_
    rotate_left
    · intro w' hF; have f10 := hF.2.1.cell0; have f11 := hF.2.1.cell1; have f12 := hF.2.1.cell2; have f13 := hF.2.1.cell3; have f20 := hF.2.2.1.cell0; have f21 := hF.2.2.1.cell1; have f22 := hF.2.2.1.cell2; have f23 := hF.2.2.1.cell3; have f30 := hF.2.2.2.cell0; have f31 := hF.2.2.2.cell1; have f32 := hF.2.2.2.cell2; have f33 := hF.2.2.2.cell3; clear hF; go_simp; try rfl
    rotate_left
    · simp only [Act.put]; exact rfl
    refine Calm.takeL 13 (i := 4) (v := ?_) (a' := ?_) (l' := #[true, true, true, true, true, false, false, false, false, false, false, false, false]) (d := some 68) (by kernel_rfl) rfl (by kernel_rfl) (by kernel_rfl) (by kernel_rfl) (by kernel_rfl) (fun _ _ _ h => h) HF.out rfl ?_ rfl rfl ?_ ?_
    rotate_left
    · intro w' hF; clear hF; go_simp; try rfl
    rotate_left
    · simp only [Act.put]; exact rfl
    refine Calm.takeL 13 (i := 5) (v := ?_) (a' := ?_) (l' := #[true, true, true, true, true, true, false, false, false, false, false, false, false]) (d := some 69) (by kernel_rfl) rfl (by kernel_rfl) (by kernel_rfl) (by kernel_rfl) (by kernel_rfl) (fun _ _ _ h => h) HF.out rfl ?_ rfl rfl ?_ ?_
    rotate_left
    · intro w' hF; have f10 := hF.2.1.cell0; have f11 := hF.2.1.cell1; have f12 := hF.2.1.cell2; have f13 := hF.2.1.cell3; have f20 := hF.2.2.1.cell0; have f21 := hF.2.2.1.cell1; have f22 := hF.2.2.1.cell2; have f23 := hF.2.2.1.cell3; have f30 := hF.2.2.2.cell0; have f31 := hF.2.2.2.cell1; have f32 := hF.2.2.2.cell2; have f33 := hF.2.2.2.cell3; clear hF; go_simp; try rfl
    rotate_left
    · simp only [Act.put]; exact rfl
    refine Calm.takeL 13 (i := 6) (v := ?_) (a' := ?_) (l' := #[true, true, true, true, true, true, true, false, false, false, false, false, false]) (d := some 70) (by kernel_rfl) rfl (by kernel_rfl) (by kernel_rfl) (by kernel_rfl) (by kernel_rfl) (fun _ _ _ h => h) HF.out rfl ?_ rfl rfl ?_ ?_
    rotate_left
    · intro w' hF; clear hF; go_simp; try rfl
    rotate_left
    · simp only [Act.put]; exact rfl
    refine Calm.takeL 13 (i := 7) (v := ?_) (a' := ?_) (l' := #[true, true, true, true, true, true, true, true, false, false, false, false, false]) (d := some 71) (by kernel_rfl) rfl (by kernel_rfl) (by kernel_rfl) (by kernel_rfl) (by kernel_rfl) (fun _ _ _ h => h) HF.out rfl ?_ rfl rfl ?_ ?_
    rotate_left
    · intro w' hF; clear hF; go_simp; try rfl
    rotate_left
    · simp only [Act.put]; exact rfl
    refine Calm.takeL 13 (i := 8) (v := ?_) (a' := ?_) (l' := #[true, true, true, true, true, true, true, true, true, false, false, false, false]) (d := some 72) (by kernel_rfl) rfl (by kernel_rfl) (by kernel_rfl) (by kernel_rfl) (by kernel_rfl) (fun _ _ _ h => h) HF.out rfl ?_ rfl rfl ?_ ?_
    rotate_left
    · intro w' hF; have f10 := hF.2.1.cell0; have f11 := hF.2.1.cell1; have f12 := hF.2.1.cell2; have f13 := hF.2.1.cell3; have f20 := hF.2.2.1.cell0; have f21 := hF.2.2.1.cell1; have f22 := hF.2.2.1.cell2; have f23 := hF.2.2.1.cell3; have f30 := hF.2.2.2.cell0; have f31 := hF.2.2.2.cell1; have f32 := hF.2.2.2.cell2; have f33 := hF.2.2.2.cell3; clear hF; go_simp; try rfl
    rotate_left
    · simp only [Act.put]; exact rfl
    refine Calm.two (i := 9) (j := 11) (l := #[true, true, true, true, true, true, true, true, true, true, false, false, false]) (l' := #[true, true, true, true, true, true, true, true, true, false, false, true, false]) (by kernel_rfl) rfl rfl rfl rfl rfl rfl (fun K hK => ?_) (fun K hK => ?_)
    · go_simp
      refine (clonec_any _ p.code _ (KC.out.below HF.out.1) (by omega)).mono ?_
      rintro e w5 ⟨⟨vc, rfl, hown⟩, hb⟩
      obtain ⟨va, vcap, rfl⟩ := own_slice hown
      have HF' := hide (And.intro (HF.out.1.trans ((hb).mono HF.out.1.size)) (And.intro (HF.out.2.1.step (hb)) (And.intro (HF.out.2.2.1.step (hb)) (HF.out.2.2.2.step (hb)))))
      have OC := hide ((show OwnC _ _ _ _ from own_base hown (HF.out.1.size)))
      refine hK _ _ (fun _ => HF'.out) ?_
      clear hK K HF hb hown
      have HF := hide HF'.out
      clear HF'
      refine Calm.takeL 13 (i := 10) (v := ?_) (a' := ?_) (l' := #[true, true, true, true, true, true, true, true, true, true, true, false, false]) (d := some 74) (by kernel_rfl) rfl (by kernel_rfl) (by kernel_rfl) (by kernel_rfl) (by kernel_rfl) (fun _ _ _ h => h) HF.out rfl ?_ rfl rfl ?_ ?_
      rotate_left
      · intro w' hF; clear hF; go_simp; try rfl
      rotate_left
      · simp only [Act.put]; exact rfl
      refine Calm.one (i := 11) (l' := #[true, true, true, true, true, true, true, true, true, true, true, true, false]) (by kernel_rfl) rfl rfl rfl fun K hK => ?_
      go_simp
      have al := below_alloc w5 (.cells #[.int .i64 0, .int .i64 0, .slice none 0 0, .slice none 0 0] 25)
      have HF' := hide (And.intro (HF.out.1.trans ((al).mono HF.out.1.size)) (And.intro (HF.out.2.1.step (al)) (And.intro (HF.out.2.2.1.step (al)) (HF.out.2.2.2.step (al)))))
      have BXk := hide (Box4.new w5 25 (.int .i64 0) (.int .i64 0) (.slice none 0 0) (.slice none 0 0))
      replace OC := hide (OC.out.below (al))
      have LT1k := hide (HF.out.2.1.lt)
      have LT2k := hide (HF.out.2.2.1.lt)
      have LT3k := hide (HF.out.2.2.2.lt)
      have GEk := hide (HF.out.1.size)
      refine hK _ _ (fun _ => HF'.out) ?_
      clear hK K HF al
      have HF := hide HF'.out
      clear HF'
      generalize w5.alloc (.cells #[.int .i64 0, .int .i64 0, .slice none 0 0, .slice none 0 0] 25) = wzk at *
      generalize w5.heap.size = gk at *
      refine Calm.one (i := 12) (l' := #[true, true, true, true, true, true, true, true, true, true, true, true, true]) (by kernel_rfl) rfl rfl rfl fun K hK => ?_
      simp only [WP.out]
      have hk0 := BXk.out.cell0
      have hk1 := BXk.out.cell1
      have hk2 := BXk.out.cell2
      have hk3 := BXk.out.cell3
      have hf0 := BXk.out.free 0
      have hf1 := BXk.out.free 1
      have hf2 := BXk.out.free 2
      have hf3 := BXk.out.free 3
      go_simp
      refine hK _ _ (fun h => absurd h (by decide)) ?_
      clear hK K
      refine Calm.done (by kernel_rfl) ?_
      have JX := hide (JS.start (p := p) (q := q) HF.out.1 HF.out.2.1 HF.out.2.2.1 HF.out.2.2.2 BXk.out OC.out ⟨by have := LT1k.out; omega, by have := LT2k.out; omega, by have := LT3k.out; omega, GEk.out, by have := HR.out; have := HZ.out; omega⟩)
      clear HF BXk OC LT1k LT2k LT3k GEk hk0 hk1 hk2 hk3 hf0 hf1 hf2 hf3 PX PY RX HB
      go_wp2
      go_meet
      case rel => exact ⟨gk, _, rfl, JX.out⟩
    · go_simp
      have al := below_alloc w3d (.cells #[.int .i64 0, .int .i64 0, .slice none 0 0, .slice none 0 0] 25)
      have HF' := hide (And.intro (HF.out.1.trans ((al).mono HF.out.1.size)) (And.intro (HF.out.2.1.step (al)) (And.intro (HF.out.2.2.1.step (al)) (HF.out.2.2.2.step (al)))))
      have BXk := hide (Box4.new w3d 25 (.int .i64 0) (.int .i64 0) (.slice none 0 0) (.slice none 0 0))
      have LT1k := hide (HF.out.2.1.lt)
      have LT2k := hide (HF.out.2.2.1.lt)
      have LT3k := hide (HF.out.2.2.2.lt)
      have GEk := hide (HF.out.1.size)
      refine hK _ _ (fun _ => HF'.out) ?_
      clear hK K HF al
      have HF := hide HF'.out
      clear HF'
      generalize w3d.alloc (.cells #[.int .i64 0, .int .i64 0, .slice none 0 0, .slice none 0 0] 25) = wzk at *
      generalize w3d.heap.size = gk at *
      refine Calm.one (i := 9) (l' := #[true, true, true, true, true, true, true, true, true, true, false, true, false]) (by kernel_rfl) rfl rfl rfl fun K hK => ?_
      go_simp
      refine (clonec_any _ p.code _ (KC.out.below HF.out.1) (by omega)).mono ?_
      rintro e w5 ⟨⟨vc, rfl, hown⟩, hb⟩
      obtain ⟨va, vcap, rfl⟩ := own_slice hown
      replace BXk := hide (BXk.out.step hb)
      have HF' := hide (And.intro (HF.out.1.trans ((hb).mono HF.out.1.size)) (And.intro (HF.out.2.1.step (hb)) (And.intro (HF.out.2.2.1.step (hb)) (HF.out.2.2.2.step (hb)))))
      have OC := hide ((show OwnC _ _ _ _ from own_base hown (HF.out.1.size)))
      refine hK _ _ (fun _ => HF'.out) ?_
      clear hK K HF hb hown
      have HF := hide HF'.out
      clear HF'
      refine Calm.takeL 13 (i := 10) (v := ?_) (a' := ?_) (l' := #[true, true, true, true, true, true, true, true, true, true, true, true, false]) (d := some 74) (by kernel_rfl) rfl (by kernel_rfl) (by kernel_rfl) (by kernel_rfl) (by kernel_rfl) (fun _ _ _ h => h) HF.out rfl ?_ rfl rfl ?_ ?_
      rotate_left
      · intro w' hF; clear hF; go_simp; try rfl
      rotate_left
      · simp only [Act.put]; exact rfl
      refine Calm.one (i := 12) (l' := #[true, true, true, true, true, true, true, true, true, true, true, true, true]) (by kernel_rfl) rfl rfl rfl fun K hK => ?_
      simp only [WP.out]
      have hk0 := BXk.out.cell0
      have hk1 := BXk.out.cell1
      have hk2 := BXk.out.cell2
      have hk3 := BXk.out.cell3
      have hf0 := BXk.out.free 0
      have hf1 := BXk.out.free 1
      have hf2 := BXk.out.free 2
      have hf3 := BXk.out.free 3
      go_simp
      refine hK _ _ (fun h => absurd h (by decide)) ?_
      clear hK K
      refine Calm.done (by kernel_rfl) ?_
      have JX := hide (JS.start (p := p) (q := q) HF.out.1 HF.out.2.1 HF.out.2.2.1 HF.out.2.2.2 BXk.out OC.out ⟨by have := LT1k.out; omega, by have := LT2k.out; omega, by have := LT3k.out; omega, GEk.out, by have := HR.out; have := HZ.out; omega⟩)
      clear HF BXk OC LT1k LT2k LT3k GEk hk0 hk1 hk2 hk3 hf0 hf1 hf2 hf3 PX PY RX HB
      go_wp2
      go_meet
      case rel => exact ⟨gk, _, rfl, JX.out⟩
  case rest =>
    obtain ⟨gk, vc, rfl, hJ⟩ := hcut
    have JX := hide hJ
    clear hJ PX PY RX HB
    generalize hwc : wc = w9 at *
    clear hwc
    have x2 := JX.out.px.cell3
    go_upto_region 11 with fail
    clear x2
    go_loopw [78, 11, 12] (fun kv _ _ wr => ∃ (k : Nat) (vc : Value), k ≤ p.outs.length ∧ kv = .int .i64 k ∧ JS w B C R gk p q (.slice ca p.code.length cc) (.slice oa p.outs.length oc) (.slice ca2 q.code.length cc2) (.slice oa2 q.outs.length oc2) vc (.slice none 0 0) (p.code ++ mvs p k) [] wr) (fun kv _ _ _ => p.outs.length - (intOf kv).toNat)
    case atStart => exact ⟨0, _, Nat.zero_le _, rfl, by rw [show mvs p 0 = [] from rfl, List.append_nil]; exact JX.out⟩
    case round =>
    clear JX
    obtain ⟨k, vc, hk, rfl, hJ⟩ := hrel
    obtain ⟨l, hl⟩ : ∃ l, l = p.code ++ mvs p k := ⟨_, rfl⟩
    rw [← hl] at hJ
    have LN : Hid (l.length ≤ 20000) := hide (by rw [hl]; simp only [List.length_append, mvs_length]; omega)
    have HL := hide hl
    clear hl
    obtain ⟨va, vcap, rfl⟩ := own_slice hJ.oc
    have JX := hide hJ
    clear hJ
    by_cases hlt : k < p.outs.length
    · have k1 := (KO.out.below JX.out.bel).at hlt
      obtain ⟨b, off, rfl, k1⟩ := k1
      obtain ⟨r, hr⟩ : ∃ r, r = ot p.outs k := ⟨_, rfl⟩
      rw [← hr] at k1
      have HX := hide hr
      clear hr
      have x1 := JX.out.px.cell1
      have y2 := JX.out.kx.cell2
      have JA := hide (JX.out.step (below_alloc wr (.cells #[.int .i64 1, .int .i64 (p.regs + k), .int .i64 r, .int .i64 0, .int .i64 0] 36)))
      go_wp2_with (at_builtin; refine app_code rfl _ _ rfl w.heap.size _ l rfl JA.out.oc _ [⟨1, p.regs + k, r, 0, 0⟩] rfl (code1 wr ⟨1, p.regs + k, r, 0, 0⟩ rfl) (by have := LN.out; simp only [List.length_singleton]; omega) JA.out.bel.size ?_)
      intro v' w2 hown hgrow
      clear x1 y2 k1
      obtain ⟨l2, hl2⟩ : ∃ l2, l2 = l ++ [(⟨1, p.regs + k, r, 0, 0⟩ : Ins)] := ⟨_, rfl⟩
      rw [← hl2] at hown
      have HL2 := hide hl2
      clear hl2
      have kx' := JA.out.kx.grow hgrow (box_row_ne JA.out.kx JA.out.oc (by decide))
      have y2 := kx'.cell2
      have z2 := kx'.free 2
      have JN := hide (JA.out.app hgrow hown)
      obtain ⟨va', vcap', rfl⟩ := own_slice hown
      clear hgrow hown kx' JA
      go_wp2
      go_roundw
      case rel => exact ⟨k + 1, _, by omega, by go_num, by rw [mvs_succ, ← List.append_assoc, ← HL.out, show mvI p k = ⟨1, p.regs + k, r, 0, 0⟩ from by unfold mvI; rw [← HX.out], ← HL2.out]; exact JN.out⟩
      case measure => simp [intOf]; omega
    · have e : k = p.outs.length := by omega
      subst e
      have x2 := JX.out.qx.cell2
      go_upto_region 16 with fail
      clear x2
      rw [HL.out] at JX
      clear HL LN
      generalize wr = w11 at *
      go_loopw [98, 14] (fun kv _ wr => ∃ (k : Nat) (vc : Value), k ≤ q.code.length ∧ kv = .int .i64 k ∧ JS w B C R gk p q (.slice ca p.code.length cc) (.slice oa p.outs.length oc) (.slice ca2 q.code.length cc2) (.slice oa2 q.outs.length oc2) vc (.slice none 0 0) ((p.code ++ mvs p p.outs.length) ++ rsd p q k) [] wr) (fun kv _ _ => q.code.length - (intOf kv).toNat)
      case atStart => exact ⟨0, _, Nat.zero_le _, rfl, by rw [show rsd p q 0 = [] from rfl, List.append_nil]; exact JX.out⟩
      case round =>
        clear JX
        obtain ⟨k, vc, hk, rfl, hJ⟩ := hrel
        obtain ⟨l, hl⟩ : ∃ l, l = p.code ++ mvs p p.outs.length ++ rsd p q k := ⟨_, rfl⟩
        rw [← hl] at hJ
        have LN : Hid (l.length ≤ 40000) := hide (by rw [hl]; simp only [List.length_append, mvs_length, rsd_length]; omega)
        have HL := hide hl
        clear hl
        obtain ⟨va, vcap, rfl⟩ := own_slice hJ.oc
        have JX := hide hJ
        clear hJ
        by_cases hlt : k < q.code.length
        · have k1 := (LC.out.below JX.out.bel).at hlt
          obtain ⟨b, off, rfl, k1⟩ := k1
          obtain ⟨x, hx⟩ : ∃ x, x = cd q.code k := ⟨_, rfl⟩
          rw [← hx] at k1
          have HX := hide hx
          clear hx
          have MB := hide (may_parts (i := x) (regs := q.regs) (by rw [HX.out]; exact Q8.out k hlt))
          have k10 := k1.cell0
          have k11 := k1.cell1
          have k12 := k1.cell2
          have k13 := k1.cell3
          have k14 := k1.cell4
          clear k1
          go_upto_region 18 with fail
          clear k10 k11 k12 k13 k14
          have hb := below_alloc wr (.cells x.vals 36)
          have IX := hide (Box5.new wr 36 x)
          replace JX := hide (JX.out.step hb)
          clear hb
          unfold Ins.vals at IX JX
          generalize wr.alloc (.cells #[.int .i64 x.op, .int .i64 x.to, .int .i64 x.a, .int .i64 x.b, .int .i64 x.c] 36) = w12 at *
          generalize wr.heap.size = gi at *
          obtain ⟨y, hy⟩ : ∃ y, y = raiseI x p.regs := ⟨_, rfl⟩
          have RA : Hid (∀ w, Calls Tryd.prog 39 #[.agg #[.int .i64 x.op, .int .i64 x.to, .int .i64 x.a, .int .i64 x.b, .int .i64 x.c], .int .i64 p.regs] w fun e w' => e = .returned (.agg #[.int .i64 y.op, .int .i64 y.to, .int .i64 y.a, .int .i64 y.b, .int .i64 y.c]) ∧ Below w.heap.size w w') := hide (fun w => by rw [hy]; obtain ⟨m1, m2, m3, m4, m5, m6, _⟩ := MB.out; exact raised_any x p.regs w m1 (by omega) m3 (by omega) m5 (by omega) (by omega) (by omega))
          have HY := hide hy
          clear hy MB
          refine wp_calm (fun w' => Below w.heap.size w w' ∧ JS w B C R gk p q (.slice ca p.code.length cc) (.slice oa p.outs.length oc) (.slice (some ⟨b, off, none⟩) q.code.length cc2) (.slice oa2 q.outs.length oc2) (.slice va l.length vcap) (.slice none 0 0) l [] w' ∧ Box5 w' gi 36 x) (fun j => j != 7 && j != 8 && j != 9) 10 #[false, false, false, false, false, false, false, false, false, false] (by kernel_rfl) rfl rfl ?_
          have HF := hide (And.intro JX.out.bel.drew (And.intro JX.out.drew IX.out.drew))
          generalize w12.drew = w12d at *
          refine Calm.takeL 10 (i := 0) (v := ?_) (a' := ?_) (l' := #[true, false, false, false, false, false, false, false, false, false]) (d := some 102) (by kernel_rfl) rfl (by kernel_rfl) (by kernel_rfl) (by kernel_rfl) (by kernel_rfl) (fun _ _ _ h => h) HF.out rfl ?_ rfl rfl ?_ ?_
          rotate_left
          · intro w' hF; clear hF; go_simp; try rfl
          rotate_left
          · simp only [Act.put]; exact rfl
          refine Calm.takeL 10 (i := 1) (v := ?_) (a' := ?_) (l' := #[true, true, false, false, false, false, false, false, false, false]) (d := some 103) (by kernel_rfl) rfl (by kernel_rfl) (by kernel_rfl) (by kernel_rfl) (by kernel_rfl) (fun _ _ _ h => h) HF.out rfl ?_ rfl rfl ?_ ?_
          rotate_left
          · intro w' hF; have f0 := hF.2.1.kx.cell2; have f1 := hF.2.1.px.cell1; have f2 := hF.2.2.cells.cell0; have f3 := hF.2.2.cells.cell1; have f4 := hF.2.2.cells.cell2; have f5 := hF.2.2.cells.cell3; have f6 := hF.2.2.cells.cell4; simp only [Nat.zero_add] at f3 f4 f5 f6; clear hF; go_simp; try rfl
          rotate_left
          · simp only [Act.put]; exact rfl
          refine Calm.takeL 10 (i := 2) (v := ?_) (a' := ?_) (l' := #[true, true, true, false, false, false, false, false, false, false]) (d := some 104) (by kernel_rfl) rfl (by kernel_rfl) (by kernel_rfl) (by kernel_rfl) (by kernel_rfl) (fun _ _ _ h => h) HF.out rfl ?_ rfl rfl ?_ ?_
          rotate_left
          · intro w' hF; have f0 := hF.2.1.kx.cell2; have f1 := hF.2.1.px.cell1; have f2 := hF.2.2.cells.cell0; have f3 := hF.2.2.cells.cell1; have f4 := hF.2.2.cells.cell2; have f5 := hF.2.2.cells.cell3; have f6 := hF.2.2.cells.cell4; simp only [Nat.zero_add] at f3 f4 f5 f6; clear hF; go_simp; try rfl
          rotate_left
          · simp only [Act.put]; exact rfl
          refine Calm.takeL 10 (i := 3) (v := ?_) (a' := ?_) (l' := #[true, true, true, true, false, false, false, false, false, false]) (d := some 105) (by kernel_rfl) rfl (by kernel_rfl) (by kernel_rfl) (by kernel_rfl) (by kernel_rfl) (fun _ _ _ h => h) HF.out rfl ?_ rfl rfl ?_ ?_
          rotate_left
          · intro w' hF; clear hF; go_simp; try rfl
          rotate_left
          · simp only [Act.put]; exact rfl
          refine Calm.takeL 10 (i := 4) (v := ?_) (a' := ?_) (l' := #[true, true, true, true, true, false, false, false, false, false]) (d := some 106) (by kernel_rfl) rfl (by kernel_rfl) (by kernel_rfl) (by kernel_rfl) (by kernel_rfl) (fun _ _ _ h => h) HF.out rfl ?_ rfl rfl ?_ ?_
          rotate_left
          · intro w' hF; have f0 := hF.2.1.kx.cell2; have f1 := hF.2.1.px.cell1; have f2 := hF.2.2.cells.cell0; have f3 := hF.2.2.cells.cell1; have f4 := hF.2.2.cells.cell2; have f5 := hF.2.2.cells.cell3; have f6 := hF.2.2.cells.cell4; simp only [Nat.zero_add] at f3 f4 f5 f6; clear hF; go_simp; try rfl
          rotate_left
          · simp only [Act.put]; exact rfl
          refine Calm.one (i := 5) (l' := #[true, true, true, true, true, true, false, false, false, false]) (by kernel_rfl) rfl rfl rfl fun K hK => ?_
          go_simp
          refine (RA.out _).mono ?_
          rintro e w13 ⟨rfl, hb⟩
          have HF' := hide (And.intro (HF.out.1.trans ((hb).mono HF.out.1.size)) (And.intro (HF.out.2.1.step (hb)) (HF.out.2.2.step (hb))))
          refine hK _ _ (fun _ => HF'.out) ?_
          clear hK K HF hb
          have HF := hide HF'.out
          clear HF'
          refine Calm.one (i := 6) (l' := #[true, true, true, true, true, true, true, false, false, false]) (by kernel_rfl) rfl rfl rfl fun K hK => ?_
          go_simp
          have al := below_alloc w13 (.cells #[.int .i64 y.op, .int .i64 y.to, .int .i64 y.a, .int .i64 y.b, .int .i64 y.c] 36)
          have HF' := hide (And.intro (HF.out.1.trans ((al).mono HF.out.1.size)) (And.intro (HF.out.2.1.step (al)) (HF.out.2.2.step (al))))
          have BXe := hide ((show CodeAt (w13.alloc (.cells #[.int .i64 y.op, .int .i64 y.to, .int .i64 y.a, .int .i64 y.b, .int .i64 y.c] 36)) (.slice (some ⟨w13.heap.size, 0, none⟩) 1 1) [y] from code1 w13 y rfl))
          have GEe := hide (HF.out.1.size)
          refine hK _ _ (fun _ => HF'.out) ?_
          clear hK K HF al
          have HF := hide HF'.out
          clear HF'
          generalize w13.alloc (.cells #[.int .i64 y.op, .int .i64 y.to, .int .i64 y.a, .int .i64 y.b, .int .i64 y.c] 36) = wze at *
          generalize w13.heap.size = ge at *
          refine Calm.one (i := 7) (l' := #[true, true, true, true, true, true, true, true, false, false]) (by kernel_rfl) rfl rfl rfl fun K hK => ?_
          refine app_codeW (.tmp 103) (.tmp 108) rfl w.heap.size _ l rfl HF.out.2.1.oc ge y rfl BXe.out (by have := LN.out; omega) HF.out.1.size ?_
          intro v' w2 hown hgrow
          obtain ⟨l2, hl2⟩ : ∃ l2, l2 = l ++ [y] := ⟨_, rfl⟩
          rw [← hl2] at hown
          have HL2 := hide hl2
          clear hl2
          have kx' := HF.out.2.1.kx.grow hgrow (box_row_ne HF.out.2.1.kx HF.out.2.1.oc (by decide))
          have y2 := kx'.cell2
          have z2 := kx'.free 2
          have JN := hide (HF.out.2.1.app hgrow hown)
          obtain ⟨va', vcap', rfl⟩ := own_slice hown
          clear hgrow hown kx'
          refine hK _ _ (fun h => absurd h (by decide)) ?_
          clear hK K
          refine Calm.one (i := 8) (l' := #[true, true, true, true, true, true, true, true, true, false]) (by kernel_rfl) rfl rfl rfl fun K hK => ?_
          go_simp
          refine hK _ _ (fun h => absurd h (by decide)) ?_
          clear hK K
          refine Calm.one (i := 9) (l' := #[true, true, true, true, true, true, true, true, true, true]) (by kernel_rfl) rfl rfl rfl fun K hK => ?_
          go_simp
          refine hK _ _ (fun h => absurd h (by decide)) ?_
          clear hK K
          refine Calm.done (by kernel_rfl) ?_
          clear HF BXe
          go_wp2
          go_roundw
          case rel => exact ⟨k + 1, _, by omega, by go_num, by rw [rsd_succ, ← List.append_assoc, ← HL.out, ← HX.out, ← HY.out, ← HL2.out]; exact JN.out⟩
          case measure => simp [intOf]; omega
        · have e : k = q.code.length := by omega
          subst e
          have x2 := JX.out.qx.cell3
          go_upto_region 21 with fail
          clear x2
          rw [HL.out] at JX
          clear HL LN
          generalize wr = w14 at *
          obtain ⟨l, hl⟩ : ∃ l, l = p.code ++ mvs p p.outs.length ++ rsd p q q.code.length := ⟨_, rfl⟩
          have HL := hide hl
          rw [← hl] at JX
          clear hl
          go_loopw [115, 16] (fun kv _ wr => ∃ (k : Nat) (vo : Value), k ≤ q.outs.length ∧ kv = .int .i64 k ∧ JS w B C R gk p q (.slice ca p.code.length cc) (.slice oa p.outs.length oc) (.slice ca2 q.code.length cc2) (.slice oa2 q.outs.length oc2) (.slice va l.length vcap) vo l (ots p q k) wr) (fun kv _ _ => q.outs.length - (intOf kv).toNat)
          case atStart => exact ⟨0, _, Nat.zero_le _, rfl, JX.out⟩
          case round =>
            clear JX
            obtain ⟨k, vo, hk, rfl, hJ⟩ := hrel
            obtain ⟨m, hm⟩ : ∃ m, m = ots p q k := ⟨_, rfl⟩
            rw [← hm] at hJ
            have LN : Hid (m.length ≤ 200) := hide (by rw [hm, ots_length]; omega)
            have HM := hide hm
            clear hm
            obtain ⟨vb, vcb, rfl⟩ := own_slice hJ.oo
            have JX := hide hJ
            clear hJ
            by_cases hlt : k < q.outs.length
            · have k1 := (LO.out.below JX.out.bel).at hlt
              obtain ⟨b, off, rfl, k1⟩ := k1
              obtain ⟨r, hr⟩ : ∃ r, r = ot q.outs k := ⟨_, rfl⟩
              rw [← hr] at k1
              have r1 := Q7.out k hlt
              rw [← hr] at r1
              have HX := hide hr
              clear hr
              have x1 := JX.out.px.cell1
              have y2 := JX.out.kx.cell3
              have JA := hide (JX.out.step (below_alloc wr (.cells #[.int .i64 (p.regs + r)] 3)))
              go_wp2_with (at_builtin; refine app_outs rfl _ _ rfl w.heap.size _ m rfl JA.out.oo _ [p.regs + r] rfl (int1 wr (p.regs + r) rfl) (by have := LN.out; simp only [List.length_singleton]; omega) JA.out.bel.size ?_)
              intro v' w2 hown hgrow
              clear x1 y2 k1 r1
              obtain ⟨m2, hm2⟩ : ∃ m2, m2 = m ++ [p.regs + r] := ⟨_, rfl⟩
              rw [← hm2] at hown
              have HM2 := hide hm2
              clear hm2
              have kx' := JA.out.kx.grow hgrow (box_row_ne JA.out.kx JA.out.oo (by decide))
              have y2 := kx'.cell3
              have z2 := kx'.free 3
              have JN := hide (JA.out.appO hgrow hown)
              obtain ⟨vb', vcb', rfl⟩ := own_slice hown
              clear hgrow hown kx' JA
              go_wp2
              go_roundw
              case rel => exact ⟨k + 1, _, by omega, by go_num, by rw [ots_succ, ← HM.out, ← HX.out, ← HM2.out]; exact JN.out⟩
              case measure => simp [intOf]; omega
            · have e : k = q.outs.length := by omega
              subst e
              have k0 := JX.out.kx.cell0
              have k1 := JX.out.kx.cell1
              have k2 := JX.out.kx.cell2
              have k3 := JX.out.kx.cell3
              have r0 := JX.out.rx.cell0
              have r1 := JX.out.rx.cell1
              have r2 := JX.out.rx.cell2
              have r3 := JX.out.rx.cell3
              have f0 := JX.out.rx.free 0
              have f1 := JX.out.rx.free 1
              have f2 := JX.out.rx.free 2
              have f3 := JX.out.rx.free 3
              go_wp2
              refine ret_pge rfl R _ _ _ _ rfl (JX.out.rx.put _ _ _ _) rfl ?_
              rw [E1.out, E2.out]
              exact ⟨⟨_, rfl, JX.out.done (joined p q) rfl rfl HL.out.symm HM.out.symm _ _ _ _⟩, below_put4 JX.out.bel JX.out.ne.2.2.2.2 _ _ _ _⟩
end Go.Proofs.YtlbjkfnknkpkiaaDoor
